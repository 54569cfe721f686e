/- How far a car goes on: the document's, tick by tick. -/
import Derived.Test.YtffcmfpadaebdaaFaceB
import Derived.Test.YtffcmfpadaebdaaCarM
import Derived.Test.YtffcmfpadaebdaaWantM
import Derived.Test.YtffcmfpadaebdaaRows
import Derived.Test.YtffcmfpadaebdaaKitM
import Derived.Test.YtffcmfpadaebdaaBitM
import Derived.Laws.AppendOwnNone
import Derived.WalkKit
import Derived.OwnWalk
import Derived.Laws.MakeOwn
import Derived.Laws.OwnMore
import Derived.Deep.LoopGhost
import Derived.IntWalk
import Derived.Lib.Hide
import Derived.WalkSpells
import Derived.WalkLawsBesides
import Derived.Laws.CopyOwn
import Derived.Deep.QuietTactic
import Derived.Deep.RegionHeld3
import Derived.BigQuiet
import Derived.BigRegion
import Derived.Test.YtffcmfpadaebdaaMoveB
import Derived.Test.YtffcmfpadaebdaaFaceC
import Derived.Test.YtffcmfpadaebdaaFaceD
import Derived.Test.YtffcmfpadaebdaaNearH
import Derived.Test.YtffcmfpadaebdaaPlaceA
import Derived.Test.YtffcmfpadaebdaaMoveMath
import Derived.Test.YtffcmfpadaebdaaMoveC
import Derived.Maps.AppendAt
import Derived.Test.YtffcmfpadaebdaaMoveD
import Derived.Test.YtffcmfpadaebdaaMoveE
import Derived.Test.YtffcmfpadaebdaaMoveF
namespace Go.Proofs.Ytffcmfpadaebdaa
open Go.RowKit
set_option linter.unusedSimpArgs false
set_option linter.unusedVariables false
/-- what a tick of a moving car comes to: it goes on, or does something else -/
theorem stp_on {r o p d le op : Int} {st : Bool} (h : r ≠ 0 ∨ (st = false ∧ o = d)) (hd : d = 1 ∨ d = -1) : stp r st o p d 1 le op 0 = p + d ∧ stp r st o p d 1 le op 1 = d ∧ stp r st o p d 1 le op 2 = 1 ∧ stp r st o p d 1 le op 3 = le := by
  rcases h with h | ⟨rfl, rfl⟩
  · simp [stp, h]
  · have h0 : o ≠ 0 := by omega
    by_cases hr : r = 0 <;> simp [stp, hr, h0]
theorem stp_off {r o p d le op : Int} {st : Bool} (hr : r = 0) (h : (!st && (o == d)) = false) : stp r st o p d 1 le op 2 ≠ 1 ∨ (stp r st o p d 1 le op 2 = 1 ∧ stp r st o p d 1 le op 1 ≠ d) := by
  subst hr
  cases st
  · have ho : o ≠ d := by simpa using h
    by_cases h0 : o = 0
    · left; simp [stp, h0]
    · right; simp [stp, h0, ho]
  · left; simp [stp]
set_option maxRecDepth 100000 in
set_option maxHeartbeats 4000000 in
theorem rahead_any (s : Nat → Int) (SA : Option Addr) (sn sc : Nat) (p d le : Int) (wa : Bool) (A : Option Addr) (n c : Nat) (z : Nat → Nat → Int) (U D : Nat → Bool) (N : Nat) (F top : Int) (w : World) (hr : RdZ w 2 A n z) (hl : n ≤ 1000) (hg : 1 ≤ s 1) (g1 : s 1 ≤ 16) (hd : d = 1 ∨ d = -1) (hN : N ≤ 2100) (FA : FirstAt (s 1) (passB (rdF z n) (waF z n (s 3) U D) (laF n (s 3) U) (laF n (s 3) D) d) p d N) (hF : p + N * d = F * s 1) (ht : top ≤ 4096) (hin : ∀ i : Nat, i ≤ N → 0 ≤ p + i * d ∧ p + i * d ≤ top) :
    Calls Try.prog 13 #[scnV s SA sn sc, carV p d 1 le wa A n c, setV U, setV D] w fun e w' => e = .returned (.tuple #[.int .i64 (N + 1), .int .i64 F]) ∧ Below w.heap.size w w' := by
  have ST := fun x q r w hr h0 h1 r0 r1 e => rstep_any s SA sn sc x d 1 le wa A n c z U D q r w hr hl hg h0 h1 r0 r1 e (by omega) (by omega) (by omega)
  have GO : ∀ (x q r : Int), 0 ≤ r → r < s 1 → x = q * s 1 + r → ¬ StopAt (s 1) (passB (rdF z n) (waF z n (s 3) U D) (laF n (s 3) U) (laF n (s 3) D) d) x → r ≠ 0 ∨ (stopB (rdF z n) (waF z n (s 3) U D) (laF n (s 3) U) (laF n (s 3) D) q d = false ∧ ofWay (waF z n (s 3) U D) (laF n (s 3) U) (laF n (s 3) D) q d = d) := by
    intro x q r r0 r1 e hno
    by_cases h : r = 0
    · right
      obtain ⟨e1, e2⟩ := ediv_of hg r0 r1 e
      have hp : passB (rdF z n) (waF z n (s 3) U D) (laF n (s 3) U) (laF n (s 3) D) d q = true := by
        cases hb : passB (rdF z n) (waF z n (s 3) U D) (laF n (s 3) U) (laF n (s 3) D) d q
        · exact absurd ⟨by rw [e2]; exact h, by rw [e1]; exact hb⟩ hno
        · rfl
      unfold passB at hp
      simpa using hp
    · exact .inl h
  have NG : ∀ (x q r : Int), 0 ≤ r → r < s 1 → x = q * s 1 + r → StopAt (s 1) (passB (rdF z n) (waF z n (s 3) U D) (laF n (s 3) U) (laF n (s 3) D) d) x → r = 0 ∧ (!stopB (rdF z n) (waF z n (s 3) U D) (laF n (s 3) U) (laF n (s 3) D) q d && (ofWay (waF z n (s 3) U D) (laF n (s 3) U) (laF n (s 3) D) q d == d)) = false := by
    intro x q r r0 r1 e hs
    obtain ⟨e1, e2⟩ := ediv_of hg r0 r1 e
    unfold StopAt at hs
    rw [e1, e2] at hs
    exact ⟨hs.1, hs.2⟩
  unfold scnV carV setV at *
  obtain ⟨a0, ha0⟩ : ∃ x, wordX U = x := ⟨_, rfl⟩
  obtain ⟨a1, ha1⟩ : ∃ x, wordY U = x := ⟨_, rfl⟩
  obtain ⟨b0, hb0⟩ : ∃ x, wordX D = x := ⟨_, rfl⟩
  obtain ⟨b1, hb1⟩ : ∃ x, wordY D = x := ⟨_, rfl⟩
  obtain ⟨PF, hPF⟩ : ∃ f, passB (rdF z n) (waF z n (s 3) U D) (laF n (s 3) U) (laF n (s 3) D) d = f := ⟨_, rfl⟩
  obtain ⟨SF, hSF⟩ : ∃ f : Int → Bool, (fun q => stopB (rdF z n) (waF z n (s 3) U D) (laF n (s 3) U) (laF n (s 3) D) q d) = f := ⟨_, rfl⟩
  obtain ⟨OF, hOF⟩ : ∃ f : Int → Int, (fun q => ofWay (waF z n (s 3) U D) (laF n (s 3) U) (laF n (s 3) D) q d) = f := ⟨_, rfl⟩
  have hS : ∀ q, stopB (rdF z n) (waF z n (s 3) U D) (laF n (s 3) U) (laF n (s 3) D) q d = SF q := fun q => by rw [← hSF]
  have hO : ∀ q, ofWay (waF z n (s 3) U D) (laF n (s 3) U) (laF n (s 3) D) q d = OF q := fun q => by rw [← hOF]
  simp only [ha0, ha1, hb0, hb1, hPF, hS, hO] at ST FA GO NG ⊢
  have STh := Lib.hid ST
  have GOh := Lib.hid GO
  have NGh := Lib.hid NG
  have FAh := Lib.hid FA
  have INh := Lib.hid hin
  have HFh := Lib.hid hF
  have HDd := Lib.hid hd
  have HRd := Lib.hid hr
  have hz : (s 1 == 0) = false := by rw [beq_eq_false_iff_ne]; omega
  have d0 : -1 ≤ d := by omega
  have d1 : d ≤ 1 := by omega
  clear ha0 ha1 hb0 hb1 hPF hSF hOF hS hO ST GO NG FA hin hF hr hd
  go_enter Try.func13, Try.ntmps13
  go_wp2_with fail
  have BS := (((Blk.new w #[.int .i64 (s 0), .int .i64 (s 1), .int .i64 (s 2), .int .i64 (s 3), .int .i64 (s 4), .int .i64 (s 5), .int .i64 (s 6), .int .i64 (s 7), .slice SA sn sc, .int .i64 (s 9), .int .i64 (s 10), .int .i64 (s 11), .int .i64 (s 12)] 25).alloc (.cells #[.int .i64 p, .int .i64 d, .int .i64 1, .int .i64 le, .bool wa, .slice A n c] 29)).alloc (.cells #[.int .u64 a0, .int .u64 a1] 32)).alloc (.cells #[.int .u64 b0, .int .u64 b1] 32)
  have BC := ((Blk.new (w.alloc (.cells #[.int .i64 (s 0), .int .i64 (s 1), .int .i64 (s 2), .int .i64 (s 3), .int .i64 (s 4), .int .i64 (s 5), .int .i64 (s 6), .int .i64 (s 7), .slice SA sn sc, .int .i64 (s 9), .int .i64 (s 10), .int .i64 (s 11), .int .i64 (s 12)] 25)) #[.int .i64 p, .int .i64 d, .int .i64 1, .int .i64 le, .bool wa, .slice A n c] 29).alloc (.cells #[.int .u64 a0, .int .u64 a1] 32)).alloc (.cells #[.int .u64 b0, .int .u64 b1] 32)
  rw [World.size_alloc] at BC
  have BU := (Blk.new ((w.alloc (.cells #[.int .i64 (s 0), .int .i64 (s 1), .int .i64 (s 2), .int .i64 (s 3), .int .i64 (s 4), .int .i64 (s 5), .int .i64 (s 6), .int .i64 (s 7), .slice SA sn sc, .int .i64 (s 9), .int .i64 (s 10), .int .i64 (s 11), .int .i64 (s 12)] 25)).alloc (.cells #[.int .i64 p, .int .i64 d, .int .i64 1, .int .i64 le, .bool wa, .slice A n c] 29)) #[.int .u64 a0, .int .u64 a1] 32).alloc (.cells #[.int .u64 b0, .int .u64 b1] 32)
  rw [World.size_alloc, World.size_alloc] at BU
  have BD := Blk.new (((w.alloc (.cells #[.int .i64 (s 0), .int .i64 (s 1), .int .i64 (s 2), .int .i64 (s 3), .int .i64 (s 4), .int .i64 (s 5), .int .i64 (s 6), .int .i64 (s 7), .slice SA sn sc, .int .i64 (s 9), .int .i64 (s 10), .int .i64 (s 11), .int .i64 (s 12)] 25)).alloc (.cells #[.int .i64 p, .int .i64 d, .int .i64 1, .int .i64 le, .bool wa, .slice A n c] 29)).alloc (.cells #[.int .u64 a0, .int .u64 a1] 32)) #[.int .u64 b0, .int .u64 b1] 32
  rw [World.size_alloc, World.size_alloc, World.size_alloc] at BD
  have BE : Below w.heap.size w ((((w.alloc (.cells #[.int .i64 (s 0), .int .i64 (s 1), .int .i64 (s 2), .int .i64 (s 3), .int .i64 (s 4), .int .i64 (s 5), .int .i64 (s 6), .int .i64 (s 7), .slice SA sn sc, .int .i64 (s 9), .int .i64 (s 10), .int .i64 (s 11), .int .i64 (s 12)] 25)).alloc (.cells #[.int .i64 p, .int .i64 d, .int .i64 1, .int .i64 le, .bool wa, .slice A n c] 29)).alloc (.cells #[.int .u64 a0, .int .u64 a1] 32)).alloc (.cells #[.int .u64 b0, .int .u64 b1] 32)) := ((((Below.refl w.heap.size w).alloc (Nat.le_refl _) _).alloc (by simp <;> omega) _).alloc (by simp <;> omega) _).alloc (by simp <;> omega) _
  obtain ⟨V0, hV0⟩ : ∃ V, ((((w.alloc (.cells #[.int .i64 (s 0), .int .i64 (s 1), .int .i64 (s 2), .int .i64 (s 3), .int .i64 (s 4), .int .i64 (s 5), .int .i64 (s 6), .int .i64 (s 7), .slice SA sn sc, .int .i64 (s 9), .int .i64 (s 10), .int .i64 (s 11), .int .i64 (s 12)] 25)).alloc (.cells #[.int .i64 p, .int .i64 d, .int .i64 1, .int .i64 le, .bool wa, .slice A n c] 29)).alloc (.cells #[.int .u64 a0, .int .u64 a1] 32)).alloc (.cells #[.int .u64 b0, .int .u64 b1] 32)) = V := ⟨_, rfl⟩
  rw [hV0] at BS BC BU BD BE ⊢
  have HS := Lib.hid BS
  have HC := Lib.hid BC
  have HU := Lib.hid BU
  have HD := Lib.hid BD
  have EE := Lib.hid BE
  have ne0_1 : w.heap.size ≠ w.heap.size + 1 := by omega
  have ne0_2 : w.heap.size ≠ w.heap.size + 1 + 1 := by omega
  have ne0_3 : w.heap.size ≠ w.heap.size + 1 + 1 + 1 := by omega
  have ne1_0 : w.heap.size + 1 ≠ w.heap.size := by omega
  have ne1_2 : w.heap.size + 1 ≠ w.heap.size + 1 + 1 := by omega
  have ne1_3 : w.heap.size + 1 ≠ w.heap.size + 1 + 1 + 1 := by omega
  have ne2_0 : w.heap.size + 1 + 1 ≠ w.heap.size := by omega
  have ne2_1 : w.heap.size + 1 + 1 ≠ w.heap.size + 1 := by omega
  have ne2_3 : w.heap.size + 1 + 1 ≠ w.heap.size + 1 + 1 + 1 := by omega
  have ne3_0 : w.heap.size + 1 + 1 + 1 ≠ w.heap.size := by omega
  have ne3_1 : w.heap.size + 1 + 1 + 1 ≠ w.heap.size + 1 := by omega
  have ne3_2 : w.heap.size + 1 + 1 + 1 ≠ w.heap.size + 1 + 1 := by omega
  clear hV0 BE BS BC BU BD
  have kS0 : V0.cell? ⟨w.heap.size, 0, none⟩ = some (.int .i64 (s 0)) := HS.out.cell 0
  have kS1 : V0.cell? ⟨w.heap.size, 1, none⟩ = some (.int .i64 (s 1)) := HS.out.cell 1
  have kS2 : V0.cell? ⟨w.heap.size, 2, none⟩ = some (.int .i64 (s 2)) := HS.out.cell 2
  have kS3 : V0.cell? ⟨w.heap.size, 3, none⟩ = some (.int .i64 (s 3)) := HS.out.cell 3
  have kS4 : V0.cell? ⟨w.heap.size, 4, none⟩ = some (.int .i64 (s 4)) := HS.out.cell 4
  have kS5 : V0.cell? ⟨w.heap.size, 5, none⟩ = some (.int .i64 (s 5)) := HS.out.cell 5
  have kS6 : V0.cell? ⟨w.heap.size, 6, none⟩ = some (.int .i64 (s 6)) := HS.out.cell 6
  have kS7 : V0.cell? ⟨w.heap.size, 7, none⟩ = some (.int .i64 (s 7)) := HS.out.cell 7
  have kS8 : V0.cell? ⟨w.heap.size, 8, none⟩ = some (.slice SA sn sc) := HS.out.cell 8
  have kS9 : V0.cell? ⟨w.heap.size, 9, none⟩ = some (.int .i64 (s 9)) := HS.out.cell 9
  have kS10 : V0.cell? ⟨w.heap.size, 10, none⟩ = some (.int .i64 (s 10)) := HS.out.cell 10
  have kS11 : V0.cell? ⟨w.heap.size, 11, none⟩ = some (.int .i64 (s 11)) := HS.out.cell 11
  have kS12 : V0.cell? ⟨w.heap.size, 12, none⟩ = some (.int .i64 (s 12)) := HS.out.cell 12
  have kC0 : V0.cell? ⟨w.heap.size + 1, 0, none⟩ = some (.int .i64 p) := HC.out.cell 0
  have kC1 : V0.cell? ⟨w.heap.size + 1, 1, none⟩ = some (.int .i64 d) := HC.out.cell 1
  have kC2 : V0.cell? ⟨w.heap.size + 1, 2, none⟩ = some (.int .i64 1) := HC.out.cell 2
  have kC3 : V0.cell? ⟨w.heap.size + 1, 3, none⟩ = some (.int .i64 le) := HC.out.cell 3
  have kC4 : V0.cell? ⟨w.heap.size + 1, 4, none⟩ = some (.bool wa) := HC.out.cell 4
  have kC5 : V0.cell? ⟨w.heap.size + 1, 5, none⟩ = some (.slice A n c) := HC.out.cell 5
  have kU0 : V0.cell? ⟨w.heap.size + 1 + 1, 0, none⟩ = some (.int .u64 a0) := HU.out.cell 0
  have kU1 : V0.cell? ⟨w.heap.size + 1 + 1, 1, none⟩ = some (.int .u64 a1) := HU.out.cell 1
  have kD0 : V0.cell? ⟨w.heap.size + 1 + 1 + 1, 0, none⟩ = some (.int .u64 b0) := HD.out.cell 0
  have kD1 : V0.cell? ⟨w.heap.size + 1 + 1 + 1, 1, none⟩ = some (.int .u64 b1) := HD.out.cell 1
  go_loopw [10, 11] (fun a xx wr => ∃ (k : Nat) (y : Int), k ≤ N ∧ a = .int .i64 (k + 1 : Nat) ∧ Hid (y = p + (k : Int) * d) ∧ Hid (Blk wr (w.heap.size) 25 #[.int .i64 (s 0), .int .i64 (s 1), .int .i64 (s 2), .int .i64 (s 3), .int .i64 (s 4), .int .i64 (s 5), .int .i64 (s 6), .int .i64 (s 7), .slice SA sn sc, .int .i64 (s 9), .int .i64 (s 10), .int .i64 (s 11), .int .i64 (s 12)]) ∧ Hid (Blk wr (w.heap.size + 1) 29 #[.int .i64 y, .int .i64 d, .int .i64 1, .int .i64 le, .bool wa, .slice A n c]) ∧ Hid (Blk wr (w.heap.size + 1 + 1) 32 #[.int .u64 a0, .int .u64 a1]) ∧ Hid (Blk wr (w.heap.size + 1 + 1 + 1) 32 #[.int .u64 b0, .int .u64 b1]) ∧ Below w.heap.size w wr) (fun a _ _ => N + 2 - (intOf a).toNat)
  case atStart => exact ⟨0, p, by omega, rfl, Lib.hid (by simp), HS, HC, HU, HD, EE.out⟩
  case round =>
    obtain ⟨k, y, hk, rfl, HY, HS', HC', HU', HD', hbE⟩ := hrel
    clear kS0 kS1 kS2 kS3 kS4 kS5 kS6 kS7 kS8 kS9 kS10 kS11 kS12 kC0 kC1 kC2 kC3 kC4 kC5 kU0 kU1 kD0 kD1
    have HS := HS'; have HC := HC'; have HU := HU'; have HD := HD'; have EE := Lib.hid hbE
    clear HS' HC' HU' HD' hbE
    have kS0 : wr.cell? ⟨w.heap.size, 0, none⟩ = some (.int .i64 (s 0)) := HS.out.cell 0
    have kS1 : wr.cell? ⟨w.heap.size, 1, none⟩ = some (.int .i64 (s 1)) := HS.out.cell 1
    have kS2 : wr.cell? ⟨w.heap.size, 2, none⟩ = some (.int .i64 (s 2)) := HS.out.cell 2
    have kS3 : wr.cell? ⟨w.heap.size, 3, none⟩ = some (.int .i64 (s 3)) := HS.out.cell 3
    have kS4 : wr.cell? ⟨w.heap.size, 4, none⟩ = some (.int .i64 (s 4)) := HS.out.cell 4
    have kS5 : wr.cell? ⟨w.heap.size, 5, none⟩ = some (.int .i64 (s 5)) := HS.out.cell 5
    have kS6 : wr.cell? ⟨w.heap.size, 6, none⟩ = some (.int .i64 (s 6)) := HS.out.cell 6
    have kS7 : wr.cell? ⟨w.heap.size, 7, none⟩ = some (.int .i64 (s 7)) := HS.out.cell 7
    have kS8 : wr.cell? ⟨w.heap.size, 8, none⟩ = some (.slice SA sn sc) := HS.out.cell 8
    have kS9 : wr.cell? ⟨w.heap.size, 9, none⟩ = some (.int .i64 (s 9)) := HS.out.cell 9
    have kS10 : wr.cell? ⟨w.heap.size, 10, none⟩ = some (.int .i64 (s 10)) := HS.out.cell 10
    have kS11 : wr.cell? ⟨w.heap.size, 11, none⟩ = some (.int .i64 (s 11)) := HS.out.cell 11
    have kS12 : wr.cell? ⟨w.heap.size, 12, none⟩ = some (.int .i64 (s 12)) := HS.out.cell 12
    have kC0 : wr.cell? ⟨w.heap.size + 1, 0, none⟩ = some (.int .i64 y) := HC.out.cell 0
    have kC1 : wr.cell? ⟨w.heap.size + 1, 1, none⟩ = some (.int .i64 d) := HC.out.cell 1
    have kC2 : wr.cell? ⟨w.heap.size + 1, 2, none⟩ = some (.int .i64 1) := HC.out.cell 2
    have kC3 : wr.cell? ⟨w.heap.size + 1, 3, none⟩ = some (.int .i64 le) := HC.out.cell 3
    have kC4 : wr.cell? ⟨w.heap.size + 1, 4, none⟩ = some (.bool wa) := HC.out.cell 4
    have kC5 : wr.cell? ⟨w.heap.size + 1, 5, none⟩ = some (.slice A n c) := HC.out.cell 5
    have kU0 : wr.cell? ⟨w.heap.size + 1 + 1, 0, none⟩ = some (.int .u64 a0) := HU.out.cell 0
    have kU1 : wr.cell? ⟨w.heap.size + 1 + 1, 1, none⟩ = some (.int .u64 a1) := HU.out.cell 1
    have kD0 : wr.cell? ⟨w.heap.size + 1 + 1 + 1, 0, none⟩ = some (.int .u64 b0) := HD.out.cell 0
    have kD1 : wr.cell? ⟨w.heap.size + 1 + 1 + 1, 1, none⟩ = some (.int .u64 b1) := HD.out.cell 1
    have lS := HS.out.lt
    have lC := HC.out.lt
    have lU := HU.out.lt
    have lD := HD.out.lt
    have hY := INh.out k hk
    rw [← HY.out] at hY
    obtain ⟨y0, y1⟩ := hY
    obtain ⟨q, hq⟩ : ∃ q, y / s 1 = q := ⟨_, rfl⟩
    obtain ⟨r, hrr⟩ : ∃ r, y % s 1 = r := ⟨_, rfl⟩
    have ey : y = q * s 1 + r := by rw [← hq, ← hrr, Int.mul_comm]; exact (Int.mul_ediv_add_emod y (s 1)).symm
    have r0 : 0 ≤ r := by rw [← hrr]; exact Int.emod_nonneg _ (by omega)
    have r1 : r < s 1 := by rw [← hrr]; exact Int.emod_lt_of_pos _ (by omega)
    have STk := Lib.hid (fun w hr => STh.out y q r w hr y0 (by omega) r0 r1 ey)
    have hkI : (k : Int) ≤ 2100 := by omega
    have hk0 : (0 : Int) ≤ (k : Int) := Int.natCast_nonneg _
    by_cases hs : StopAt (s 1) PF y
    · obtain ⟨hr0, hno⟩ := NGh.out y q r r0 r1 ey hs
      have hkN : k = N := FirstAt.same ⟨by rw [← HY.out]; exact hs, fun i hi => FAh.out.none i (by omega)⟩ FAh.out
      have hFq : F = q := by
        have h1 := HFh.out
        rw [← hkN, ← HY.out, ey, hr0, Int.add_zero] at h1
        exact (Int.eq_of_mul_eq_mul_right (by omega) h1).symm
      subst hFq
      have OFFh := Lib.hid (stp_off (p := y) (le := le) (op := s 4) hr0 hno)
      clear hno hs
      obtain ⟨c0, hc0⟩ : ∃ v, stp r (SF F) (OF F) y d 1 le (s 4) 0 = v := ⟨_, rfl⟩
      obtain ⟨c1, hc1⟩ : ∃ v, stp r (SF F) (OF F) y d 1 le (s 4) 1 = v := ⟨_, rfl⟩
      obtain ⟨c2, hc2⟩ : ∃ v, stp r (SF F) (OF F) y d 1 le (s 4) 2 = v := ⟨_, rfl⟩
      obtain ⟨c3, hc3⟩ : ∃ v, stp r (SF F) (OF F) y d 1 le (s 4) 3 = v := ⟨_, rfl⟩
      rw [hc1, hc2] at OFFh
      simp only [hc0, hc1, hc2, hc3] at STk
      have HQq := Lib.hid hq
      subst hkN
      clear hc0 hc1 hc2 hc3 ey hq hrr hr0
      go_wp2_with fail
      refine (STk.out _ (HRd.out.kept EE.out)).mono ?_
      rintro e v1 ⟨rfl, hb⟩
      clear kS0 kS1 kS2 kS3 kS4 kS5 kS6 kS7 kS8 kS9 kS10 kS11 kS12 kC0 kC1 kC2 kC3 kC4 kC5 kU0 kU1 kD0 kD1 lS lC lU lD
      have HS := Lib.hid (Blk.next (w := wr) HS.out hb)
      have HC := Lib.hid (Blk.next (w := wr) HC.out hb)
      have HU := Lib.hid (Blk.next (w := wr) HU.out hb)
      have HD := Lib.hid (Blk.next (w := wr) HD.out hb)
      have EE := Lib.hid (EE.out.trans (hb.mono EE.out.size))
      clear hb
      have kS0 : v1.cell? ⟨w.heap.size, 0, none⟩ = some (.int .i64 (s 0)) := HS.out.cell 0
      have kS1 : v1.cell? ⟨w.heap.size, 1, none⟩ = some (.int .i64 (s 1)) := HS.out.cell 1
      have kS2 : v1.cell? ⟨w.heap.size, 2, none⟩ = some (.int .i64 (s 2)) := HS.out.cell 2
      have kS3 : v1.cell? ⟨w.heap.size, 3, none⟩ = some (.int .i64 (s 3)) := HS.out.cell 3
      have kS4 : v1.cell? ⟨w.heap.size, 4, none⟩ = some (.int .i64 (s 4)) := HS.out.cell 4
      have kS5 : v1.cell? ⟨w.heap.size, 5, none⟩ = some (.int .i64 (s 5)) := HS.out.cell 5
      have kS6 : v1.cell? ⟨w.heap.size, 6, none⟩ = some (.int .i64 (s 6)) := HS.out.cell 6
      have kS7 : v1.cell? ⟨w.heap.size, 7, none⟩ = some (.int .i64 (s 7)) := HS.out.cell 7
      have kS8 : v1.cell? ⟨w.heap.size, 8, none⟩ = some (.slice SA sn sc) := HS.out.cell 8
      have kS9 : v1.cell? ⟨w.heap.size, 9, none⟩ = some (.int .i64 (s 9)) := HS.out.cell 9
      have kS10 : v1.cell? ⟨w.heap.size, 10, none⟩ = some (.int .i64 (s 10)) := HS.out.cell 10
      have kS11 : v1.cell? ⟨w.heap.size, 11, none⟩ = some (.int .i64 (s 11)) := HS.out.cell 11
      have kS12 : v1.cell? ⟨w.heap.size, 12, none⟩ = some (.int .i64 (s 12)) := HS.out.cell 12
      have kC0 : v1.cell? ⟨w.heap.size + 1, 0, none⟩ = some (.int .i64 y) := HC.out.cell 0
      have kC1 : v1.cell? ⟨w.heap.size + 1, 1, none⟩ = some (.int .i64 d) := HC.out.cell 1
      have kC2 : v1.cell? ⟨w.heap.size + 1, 2, none⟩ = some (.int .i64 1) := HC.out.cell 2
      have kC3 : v1.cell? ⟨w.heap.size + 1, 3, none⟩ = some (.int .i64 le) := HC.out.cell 3
      have kC4 : v1.cell? ⟨w.heap.size + 1, 4, none⟩ = some (.bool wa) := HC.out.cell 4
      have kC5 : v1.cell? ⟨w.heap.size + 1, 5, none⟩ = some (.slice A n c) := HC.out.cell 5
      have kU0 : v1.cell? ⟨w.heap.size + 1 + 1, 0, none⟩ = some (.int .u64 a0) := HU.out.cell 0
      have kU1 : v1.cell? ⟨w.heap.size + 1 + 1, 1, none⟩ = some (.int .u64 a1) := HU.out.cell 1
      have kD0 : v1.cell? ⟨w.heap.size + 1 + 1 + 1, 0, none⟩ = some (.int .u64 b0) := HD.out.cell 0
      have kD1 : v1.cell? ⟨w.heap.size + 1 + 1 + 1, 1, none⟩ = some (.int .u64 b1) := HD.out.cell 1
      have lS := HS.out.lt
      have lC := HC.out.lt
      have lU := HU.out.lt
      have lD := HD.out.lt
      rcases OFFh.out with hm | ⟨rfl, hm⟩
      · have hmb : (c2 != 1) = true := by rw [bne_iff_ne]; exact hm
        clear hm OFFh STk
        go_wp2_with fail
        all_goals try go_region
        all_goals go_wp2_with fail
        all_goals go_ret2
        all_goals exact ⟨by rw [HQq.out]; first | rfl | (simp; done), by first | exact EE.out.alloc EE.out.size _ | exact (EE.out.alloc EE.out.size _).drew⟩
      · have hmb : (c1 != d) = true := by rw [bne_iff_ne]; exact hm
        clear hm OFFh STk
        go_wp2_with fail
        all_goals try go_region
        all_goals go_wp2_with fail
        all_goals go_ret2
        all_goals exact ⟨by rw [HQq.out]; first | rfl | (simp; done), by first | exact EE.out.alloc EE.out.size _ | exact (EE.out.alloc EE.out.size _).drew⟩
    · have hkN : k < N := by
        rcases Nat.lt_or_ge k N with h | h
        · exact h
        · exact absurd (by rw [HY.out, show k = N by omega]; exact FAh.out.here) hs
      obtain ⟨g0, g1', g2, g3⟩ := stp_on (p := y) (le := le) (op := s 4) (GOh.out y q r r0 r1 ey hs) HDd.out
      simp only [g0, g1', g2, g3] at STk
      have HY1 : Hid (y + d = p + ((k + 1 : Nat) : Int) * d) := Lib.hid (by
        have h := HY.out
        have e2 : ((k + 1 : Nat) : Int) * d = k * d + d := by rw [Int.natCast_add, Int.add_mul]; simp
        rw [e2]; omega)
      clear g0 g1' g2 g3 ey hq hrr hs
      go_wp2_with fail
      refine (STk.out _ (HRd.out.kept EE.out)).mono ?_
      rintro e v1 ⟨rfl, hb⟩
      clear kS0 kS1 kS2 kS3 kS4 kS5 kS6 kS7 kS8 kS9 kS10 kS11 kS12 kC0 kC1 kC2 kC3 kC4 kC5 kU0 kU1 kD0 kD1 lS lC lU lD
      have HS := Lib.hid (Blk.next (w := wr) HS.out hb)
      have HC := Lib.hid (Blk.next (w := wr) HC.out hb)
      have HU := Lib.hid (Blk.next (w := wr) HU.out hb)
      have HD := Lib.hid (Blk.next (w := wr) HD.out hb)
      have EE := Lib.hid (EE.out.trans (hb.mono EE.out.size))
      clear hb
      have kS0 : v1.cell? ⟨w.heap.size, 0, none⟩ = some (.int .i64 (s 0)) := HS.out.cell 0
      have kS1 : v1.cell? ⟨w.heap.size, 1, none⟩ = some (.int .i64 (s 1)) := HS.out.cell 1
      have kS2 : v1.cell? ⟨w.heap.size, 2, none⟩ = some (.int .i64 (s 2)) := HS.out.cell 2
      have kS3 : v1.cell? ⟨w.heap.size, 3, none⟩ = some (.int .i64 (s 3)) := HS.out.cell 3
      have kS4 : v1.cell? ⟨w.heap.size, 4, none⟩ = some (.int .i64 (s 4)) := HS.out.cell 4
      have kS5 : v1.cell? ⟨w.heap.size, 5, none⟩ = some (.int .i64 (s 5)) := HS.out.cell 5
      have kS6 : v1.cell? ⟨w.heap.size, 6, none⟩ = some (.int .i64 (s 6)) := HS.out.cell 6
      have kS7 : v1.cell? ⟨w.heap.size, 7, none⟩ = some (.int .i64 (s 7)) := HS.out.cell 7
      have kS8 : v1.cell? ⟨w.heap.size, 8, none⟩ = some (.slice SA sn sc) := HS.out.cell 8
      have kS9 : v1.cell? ⟨w.heap.size, 9, none⟩ = some (.int .i64 (s 9)) := HS.out.cell 9
      have kS10 : v1.cell? ⟨w.heap.size, 10, none⟩ = some (.int .i64 (s 10)) := HS.out.cell 10
      have kS11 : v1.cell? ⟨w.heap.size, 11, none⟩ = some (.int .i64 (s 11)) := HS.out.cell 11
      have kS12 : v1.cell? ⟨w.heap.size, 12, none⟩ = some (.int .i64 (s 12)) := HS.out.cell 12
      have kC0 : v1.cell? ⟨w.heap.size + 1, 0, none⟩ = some (.int .i64 y) := HC.out.cell 0
      have kC1 : v1.cell? ⟨w.heap.size + 1, 1, none⟩ = some (.int .i64 d) := HC.out.cell 1
      have kC2 : v1.cell? ⟨w.heap.size + 1, 2, none⟩ = some (.int .i64 1) := HC.out.cell 2
      have kC3 : v1.cell? ⟨w.heap.size + 1, 3, none⟩ = some (.int .i64 le) := HC.out.cell 3
      have kC4 : v1.cell? ⟨w.heap.size + 1, 4, none⟩ = some (.bool wa) := HC.out.cell 4
      have kC5 : v1.cell? ⟨w.heap.size + 1, 5, none⟩ = some (.slice A n c) := HC.out.cell 5
      have kU0 : v1.cell? ⟨w.heap.size + 1 + 1, 0, none⟩ = some (.int .u64 a0) := HU.out.cell 0
      have kU1 : v1.cell? ⟨w.heap.size + 1 + 1, 1, none⟩ = some (.int .u64 a1) := HU.out.cell 1
      have kD0 : v1.cell? ⟨w.heap.size + 1 + 1 + 1, 0, none⟩ = some (.int .u64 b0) := HD.out.cell 0
      have kD1 : v1.cell? ⟨w.heap.size + 1 + 1 + 1, 1, none⟩ = some (.int .u64 b1) := HD.out.cell 1
      clear kS0 kS1 kS2 kS3 kS4 kS5 kS6 kS7 kS8 kS9 kS10 kS11 kS12 kC0 kC1 kC2 kC3 kC4 kC5 kU0 kU1 kD0 kD1
      have GS : Blk (v1.alloc (.cells #[.int .i64 (y + d), .int .i64 d, .int .i64 1, .int .i64 le, .bool wa, .slice A n c] 29)) (w.heap.size) 25 #[.int .i64 (s 0), .int .i64 (s 1), .int .i64 (s 2), .int .i64 (s 3), .int .i64 (s 4), .int .i64 (s 5), .int .i64 (s 6), .int .i64 (s 7), .slice SA sn sc, .int .i64 (s 9), .int .i64 (s 10), .int .i64 (s 11), .int .i64 (s 12)] := HS.out.alloc (.cells #[.int .i64 (y + d), .int .i64 d, .int .i64 1, .int .i64 le, .bool wa, .slice A n c] 29)
      have GC : Blk (v1.alloc (.cells #[.int .i64 (y + d), .int .i64 d, .int .i64 1, .int .i64 le, .bool wa, .slice A n c] 29)) (w.heap.size + 1) 29 #[.int .i64 y, .int .i64 d, .int .i64 1, .int .i64 le, .bool wa, .slice A n c] := HC.out.alloc (.cells #[.int .i64 (y + d), .int .i64 d, .int .i64 1, .int .i64 le, .bool wa, .slice A n c] 29)
      have GU : Blk (v1.alloc (.cells #[.int .i64 (y + d), .int .i64 d, .int .i64 1, .int .i64 le, .bool wa, .slice A n c] 29)) (w.heap.size + 1 + 1) 32 #[.int .u64 a0, .int .u64 a1] := HU.out.alloc (.cells #[.int .i64 (y + d), .int .i64 d, .int .i64 1, .int .i64 le, .bool wa, .slice A n c] 29)
      have GD : Blk (v1.alloc (.cells #[.int .i64 (y + d), .int .i64 d, .int .i64 1, .int .i64 le, .bool wa, .slice A n c] 29)) (w.heap.size + 1 + 1 + 1) 32 #[.int .u64 b0, .int .u64 b1] := HD.out.alloc (.cells #[.int .i64 (y + d), .int .i64 d, .int .i64 1, .int .i64 le, .bool wa, .slice A n c] 29)
      have GX : Blk (v1.alloc (.cells #[.int .i64 (y + d), .int .i64 d, .int .i64 1, .int .i64 le, .bool wa, .slice A n c] 29)) (v1.heap.size) 29 #[.int .i64 (y + d), .int .i64 d, .int .i64 1, .int .i64 le, .bool wa, .slice A n c] := Blk.new v1 _ _
      have GE : Below w.heap.size w (v1.alloc (.cells #[.int .i64 (y + d), .int .i64 d, .int .i64 1, .int .i64 le, .bool wa, .slice A n c] 29)) := EE.out.alloc EE.out.size (.cells #[.int .i64 (y + d), .int .i64 d, .int .i64 1, .int .i64 le, .bool wa, .slice A n c] 29)
      have nx0 : v1.heap.size ≠ w.heap.size := by have := HS.out.lt; omega
      have xn0 : w.heap.size ≠ v1.heap.size := by have := HS.out.lt; omega
      have nx1 : v1.heap.size ≠ w.heap.size + 1 := by have := HC.out.lt; omega
      have xn1 : w.heap.size + 1 ≠ v1.heap.size := by have := HC.out.lt; omega
      have nx2 : v1.heap.size ≠ w.heap.size + 1 + 1 := by have := HU.out.lt; omega
      have xn2 : w.heap.size + 1 + 1 ≠ v1.heap.size := by have := HU.out.lt; omega
      have nx3 : v1.heap.size ≠ w.heap.size + 1 + 1 + 1 := by have := HD.out.lt; omega
      have xn3 : w.heap.size + 1 + 1 + 1 ≠ v1.heap.size := by have := HD.out.lt; omega
      obtain ⟨V9, hV9⟩ : ∃ V, (v1.alloc (.cells #[.int .i64 (y + d), .int .i64 d, .int .i64 1, .int .i64 le, .bool wa, .slice A n c] 29)) = V := ⟨_, rfl⟩
      rw [hV9] at GS GC GU GD GX GE
      have HS := Lib.hid GS
      have HC := Lib.hid GC
      have HU := Lib.hid GU
      have HD := Lib.hid GD
      have HX := Lib.hid GX; have EE := Lib.hid GE
      clear GS GC GU GD GX GE
      have mC0 : V9.cell? ⟨w.heap.size + 1, 0, none⟩ = some (.int .i64 y) := HC.out.cell 0
      have fC0 : V9.frozen? ⟨w.heap.size + 1, 0, none⟩ = false := HC.out.frozen 0
      have mC1 : V9.cell? ⟨w.heap.size + 1, 1, none⟩ = some (.int .i64 d) := HC.out.cell 1
      have fC1 : V9.frozen? ⟨w.heap.size + 1, 1, none⟩ = false := HC.out.frozen 1
      have mC2 : V9.cell? ⟨w.heap.size + 1, 2, none⟩ = some (.int .i64 1) := HC.out.cell 2
      have fC2 : V9.frozen? ⟨w.heap.size + 1, 2, none⟩ = false := HC.out.frozen 2
      have mC3 : V9.cell? ⟨w.heap.size + 1, 3, none⟩ = some (.int .i64 le) := HC.out.cell 3
      have fC3 : V9.frozen? ⟨w.heap.size + 1, 3, none⟩ = false := HC.out.frozen 3
      have mC4 : V9.cell? ⟨w.heap.size + 1, 4, none⟩ = some (.bool wa) := HC.out.cell 4
      have fC4 : V9.frozen? ⟨w.heap.size + 1, 4, none⟩ = false := HC.out.frozen 4
      have mC5 : V9.cell? ⟨w.heap.size + 1, 5, none⟩ = some (.slice A n c) := HC.out.cell 5
      have fC5 : V9.frozen? ⟨w.heap.size + 1, 5, none⟩ = false := HC.out.frozen 5
      have mX0 : V9.cell? ⟨v1.heap.size, 0, none⟩ = some (.int .i64 (y + d)) := HX.out.cell 0
      have mX1 : V9.cell? ⟨v1.heap.size, 1, none⟩ = some (.int .i64 d) := HX.out.cell 1
      have mX2 : V9.cell? ⟨v1.heap.size, 2, none⟩ = some (.int .i64 1) := HX.out.cell 2
      have mX3 : V9.cell? ⟨v1.heap.size, 3, none⟩ = some (.int .i64 le) := HX.out.cell 3
      have mX4 : V9.cell? ⟨v1.heap.size, 4, none⟩ = some (.bool wa) := HX.out.cell 4
      have mX5 : V9.cell? ⟨v1.heap.size, 5, none⟩ = some (.slice A n c) := HX.out.cell 5
      go_wp2_with (rw [hV9])
      go_roundw
      case rel => exact ⟨k + 1, y + d, by omega, by go_num, HY1, Lib.hid ((((((HS.out.far (p := ⟨w.heap.size + 1, 0, none⟩) ne0_1 (.int .i64 (y + d))).far (p := ⟨w.heap.size + 1, 1, none⟩) ne0_1 (.int .i64 d)).far (p := ⟨w.heap.size + 1, 2, none⟩) ne0_1 (.int .i64 1)).far (p := ⟨w.heap.size + 1, 3, none⟩) ne0_1 (.int .i64 le)).far (p := ⟨w.heap.size + 1, 4, none⟩) ne0_1 (.bool wa)).far (p := ⟨w.heap.size + 1, 5, none⟩) ne0_1 (.slice A n c)), Lib.hid ((((((HC.out.set 0 (.int .i64 (y + d))).set 1 (.int .i64 d)).set 2 (.int .i64 1)).set 3 (.int .i64 le)).set 4 (.bool wa)).set 5 (.slice A n c)), Lib.hid ((((((HU.out.far (p := ⟨w.heap.size + 1, 0, none⟩) ne2_1 (.int .i64 (y + d))).far (p := ⟨w.heap.size + 1, 1, none⟩) ne2_1 (.int .i64 d)).far (p := ⟨w.heap.size + 1, 2, none⟩) ne2_1 (.int .i64 1)).far (p := ⟨w.heap.size + 1, 3, none⟩) ne2_1 (.int .i64 le)).far (p := ⟨w.heap.size + 1, 4, none⟩) ne2_1 (.bool wa)).far (p := ⟨w.heap.size + 1, 5, none⟩) ne2_1 (.slice A n c)), Lib.hid ((((((HD.out.far (p := ⟨w.heap.size + 1, 0, none⟩) ne3_1 (.int .i64 (y + d))).far (p := ⟨w.heap.size + 1, 1, none⟩) ne3_1 (.int .i64 d)).far (p := ⟨w.heap.size + 1, 2, none⟩) ne3_1 (.int .i64 1)).far (p := ⟨w.heap.size + 1, 3, none⟩) ne3_1 (.int .i64 le)).far (p := ⟨w.heap.size + 1, 4, none⟩) ne3_1 (.bool wa)).far (p := ⟨w.heap.size + 1, 5, none⟩) ne3_1 (.slice A n c)), ((((((EE.out.setCell (p := ⟨w.heap.size + 1, 0, none⟩) (by show w.heap.size ≤ w.heap.size + 1; omega) _).setCell (p := ⟨w.heap.size + 1, 1, none⟩) (by show w.heap.size ≤ w.heap.size + 1; omega) _).setCell (p := ⟨w.heap.size + 1, 2, none⟩) (by show w.heap.size ≤ w.heap.size + 1; omega) _).setCell (p := ⟨w.heap.size + 1, 3, none⟩) (by show w.heap.size ≤ w.heap.size + 1; omega) _).setCell (p := ⟨w.heap.size + 1, 4, none⟩) (by show w.heap.size ≤ w.heap.size + 1; omega) _).setCell (p := ⟨w.heap.size + 1, 5, none⟩) (by show w.heap.size ≤ w.heap.size + 1; omega) _)⟩
      case measure => simp [intOf]; omega
end Go.Proofs.Ytffcmfpadaebdaa
