/- QuietGoes: a car that moves. -/
import Derived.Test.YtffcmfpadaebdaaFaceB
import Derived.Test.YtffcmfpadaebdaaCarM
import Derived.Test.YtffcmfpadaebdaaWantM
import Derived.Test.YtffcmfpadaebdaaRows
import Derived.Test.YtffcmfpadaebdaaKitM
import Derived.Test.YtffcmfpadaebdaaBitM
import Derived.Laws.AppendOwnNone
import Derived.WalkKit
import Derived.OwnWalk
import Derived.Laws.MakeOwn
import Derived.Laws.OwnMore
import Derived.Deep.LoopGhost
import Derived.IntWalk
import Derived.Lib.Hide
import Derived.WalkSpells
import Derived.WalkLawsBesides
import Derived.Laws.CopyOwn
import Derived.Deep.QuietTactic
import Derived.Deep.RegionHeld3
import Derived.BigQuiet
import Derived.BigRegion
import Derived.Test.YtffcmfpadaebdaaMoveB
import Derived.Test.YtffcmfpadaebdaaFaceC
import Derived.Test.YtffcmfpadaebdaaFaceD
import Derived.Test.YtffcmfpadaebdaaNearH
import Derived.Test.YtffcmfpadaebdaaPlaceA
import Derived.Test.YtffcmfpadaebdaaMoveMath
import Derived.Test.YtffcmfpadaebdaaMoveC
import Derived.Maps.AppendAt
import Derived.Test.YtffcmfpadaebdaaMoveD
import Derived.Test.YtffcmfpadaebdaaMoveE
import Derived.Test.YtffcmfpadaebdaaMoveF
import Derived.Test.YtffcmfpadaebdaaMoveG
import Derived.Test.YtffcmfpadaebdaaMoveH
import Derived.Test.YtffcmfpadaebdaaMoveJ
import Derived.Test.YtffcmfpadaebdaaMoveK
import Derived.Test.YtffcmfpadaebdaaMoveL
import Derived.Test.YtffcmfpadaebdaaMoveN
import Derived.Test.YtffcmfpadaebdaaMoveO
namespace Go.Proofs.Ytffcmfpadaebdaa
open Go.RowKit
set_option linter.unusedSimpArgs false
set_option linter.unusedVariables false
set_option maxRecDepth 100000 in
set_option maxHeartbeats 40000000 in
theorem qg_mov (s : Nat → Int) (SA : Option Addr) (sn sc : Nat) (sz : Nat → Nat → Int) (p d le : Int) (wa : Bool) (A : Option Addr) (n c : Nat) (z : Nat → Nat → Int) (a0 a1 b0 b1 : Nat) (w : World) (hs : RdZ w 3 SA sn sz) (hr : RdZ w 2 A n z) (hp : (Lit.int .i64 p).wf = true) (hd : (Lit.int .i64 d).wf = true) (hle : (Lit.int .i64 le).wf = true) (hnc : n ≤ c) (hcm : c ≤ maxLen) (h0 : a0 < 18446744073709551616) (h1 : a1 < 18446744073709551616) (h2 : b0 < 18446744073709551616) (h3 : b1 < 18446744073709551616) :
    Calls Try.prog 6 #[scnV s SA sn sc, carV p d 1 le wa A n c, .agg #[.int .u64 a0, .int .u64 a1, .int .u64 b0, .int .u64 b1]] w fun e w' => e = .returned (.bool true) ∧ Below w.heap.size w w' := by
  have FI := fun w hs hr => fine_any s SA sn sc sz p d 1 le wa A n c z a0 a1 b0 b1 w hs hr hp hd (by decide) hle hnc hcm h0 h1 h2 h3
  have QG := fun x q r w (hr : RdZ w 2 A n z) => qnext_go s SA sn sc x d le wa A n c z (mem a0 a1) (mem b0 b1) q r w hr
  have RS := fun x q r w (hr : RdZ w 2 A n z) => rstep_any s SA sn sc x d 1 le wa A n c z (mem a0 a1) (mem b0 b1) q r w hr
  rw [← setV_mem h0 h1, ← setV_mem h2 h3] at QG RS
  have HRd := Lib.hid hr
  have HSZ := Lib.hid hs
  clear hs hr hp hd hle h0 h1 h2 h3 hnc hcm
  have AF := fun x k A n c z w hr hl k0 k1 x0 x1 hd => qafter_go x d 1 le k wa A n c z w hr hl k0 k1 x0 x1 hd
  have RC := fun x A B c c2 w ha hb hl => rcar_any x d 1 le wa A B n c c2 z w ha hb hl
  unfold scnV carV at *
  replace FI := Lib.hid FI; replace QG := Lib.hid QG; replace RS := Lib.hid RS; replace AF := Lib.hid AF; replace RC := Lib.hid RC
  go_enter Try.func6, Try.ntmps6
  go_wp2_with fail
  have BS := ((Blk.new w #[.int .i64 (s 0), .int .i64 (s 1), .int .i64 (s 2), .int .i64 (s 3), .int .i64 (s 4), .int .i64 (s 5), .int .i64 (s 6), .int .i64 (s 7), .slice SA sn sc, .int .i64 (s 9), .int .i64 (s 10), .int .i64 (s 11), .int .i64 (s 12)] 25).alloc (.cells #[.int .i64 p, .int .i64 d, .int .i64 1, .int .i64 le, .bool wa, .slice A n c] 29)).alloc (.cells #[.int .u64 a0, .int .u64 a1, .int .u64 b0, .int .u64 b1] 33)
  have BC := (Blk.new (w.alloc (.cells #[.int .i64 (s 0), .int .i64 (s 1), .int .i64 (s 2), .int .i64 (s 3), .int .i64 (s 4), .int .i64 (s 5), .int .i64 (s 6), .int .i64 (s 7), .slice SA sn sc, .int .i64 (s 9), .int .i64 (s 10), .int .i64 (s 11), .int .i64 (s 12)] 25)) #[.int .i64 p, .int .i64 d, .int .i64 1, .int .i64 le, .bool wa, .slice A n c] 29).alloc (.cells #[.int .u64 a0, .int .u64 a1, .int .u64 b0, .int .u64 b1] 33)
  rw [World.size_alloc] at BC
  have BL := Blk.new ((w.alloc (.cells #[.int .i64 (s 0), .int .i64 (s 1), .int .i64 (s 2), .int .i64 (s 3), .int .i64 (s 4), .int .i64 (s 5), .int .i64 (s 6), .int .i64 (s 7), .slice SA sn sc, .int .i64 (s 9), .int .i64 (s 10), .int .i64 (s 11), .int .i64 (s 12)] 25)).alloc (.cells #[.int .i64 p, .int .i64 d, .int .i64 1, .int .i64 le, .bool wa, .slice A n c] 29)) #[.int .u64 a0, .int .u64 a1, .int .u64 b0, .int .u64 b1] 33
  rw [World.size_alloc, World.size_alloc] at BL
  have BE : Below w.heap.size w (((w.alloc (.cells #[.int .i64 (s 0), .int .i64 (s 1), .int .i64 (s 2), .int .i64 (s 3), .int .i64 (s 4), .int .i64 (s 5), .int .i64 (s 6), .int .i64 (s 7), .slice SA sn sc, .int .i64 (s 9), .int .i64 (s 10), .int .i64 (s 11), .int .i64 (s 12)] 25)).alloc (.cells #[.int .i64 p, .int .i64 d, .int .i64 1, .int .i64 le, .bool wa, .slice A n c] 29)).alloc (.cells #[.int .u64 a0, .int .u64 a1, .int .u64 b0, .int .u64 b1] 33)) := (((Below.refl w.heap.size w).alloc (Nat.le_refl _) _).alloc (by simp <;> omega) _).alloc (by simp <;> omega) _
  obtain ⟨V0, hV0⟩ : ∃ V, (((w.alloc (.cells #[.int .i64 (s 0), .int .i64 (s 1), .int .i64 (s 2), .int .i64 (s 3), .int .i64 (s 4), .int .i64 (s 5), .int .i64 (s 6), .int .i64 (s 7), .slice SA sn sc, .int .i64 (s 9), .int .i64 (s 10), .int .i64 (s 11), .int .i64 (s 12)] 25)).alloc (.cells #[.int .i64 p, .int .i64 d, .int .i64 1, .int .i64 le, .bool wa, .slice A n c] 29)).alloc (.cells #[.int .u64 a0, .int .u64 a1, .int .u64 b0, .int .u64 b1] 33)) = V := ⟨_, rfl⟩
  rw [hV0] at BS BC BL BE ⊢
  have HS := Lib.hid BS
  have HC := Lib.hid BC
  have HL := Lib.hid BL
  have EE := Lib.hid BE
  have ne0_1 : w.heap.size ≠ w.heap.size + 1 := by omega
  have ne0_2 : w.heap.size ≠ w.heap.size + 1 + 1 := by omega
  have ne1_0 : w.heap.size + 1 ≠ w.heap.size := by omega
  have ne1_2 : w.heap.size + 1 ≠ w.heap.size + 1 + 1 := by omega
  have ne2_0 : w.heap.size + 1 + 1 ≠ w.heap.size := by omega
  have ne2_1 : w.heap.size + 1 + 1 ≠ w.heap.size + 1 := by omega
  clear hV0 BE BS BC BL
  have kS0 : V0.cell? ⟨w.heap.size, 0, none⟩ = some (.int .i64 (s 0)) := HS.out.cell 0
  have kS1 : V0.cell? ⟨w.heap.size, 1, none⟩ = some (.int .i64 (s 1)) := HS.out.cell 1
  have kS2 : V0.cell? ⟨w.heap.size, 2, none⟩ = some (.int .i64 (s 2)) := HS.out.cell 2
  have kS3 : V0.cell? ⟨w.heap.size, 3, none⟩ = some (.int .i64 (s 3)) := HS.out.cell 3
  have kS4 : V0.cell? ⟨w.heap.size, 4, none⟩ = some (.int .i64 (s 4)) := HS.out.cell 4
  have kS5 : V0.cell? ⟨w.heap.size, 5, none⟩ = some (.int .i64 (s 5)) := HS.out.cell 5
  have kS6 : V0.cell? ⟨w.heap.size, 6, none⟩ = some (.int .i64 (s 6)) := HS.out.cell 6
  have kS7 : V0.cell? ⟨w.heap.size, 7, none⟩ = some (.int .i64 (s 7)) := HS.out.cell 7
  have kS8 : V0.cell? ⟨w.heap.size, 8, none⟩ = some (.slice SA sn sc) := HS.out.cell 8
  have kS9 : V0.cell? ⟨w.heap.size, 9, none⟩ = some (.int .i64 (s 9)) := HS.out.cell 9
  have kS10 : V0.cell? ⟨w.heap.size, 10, none⟩ = some (.int .i64 (s 10)) := HS.out.cell 10
  have kS11 : V0.cell? ⟨w.heap.size, 11, none⟩ = some (.int .i64 (s 11)) := HS.out.cell 11
  have kS12 : V0.cell? ⟨w.heap.size, 12, none⟩ = some (.int .i64 (s 12)) := HS.out.cell 12
  have kC0 : V0.cell? ⟨w.heap.size + 1, 0, none⟩ = some (.int .i64 p) := HC.out.cell 0
  have kC1 : V0.cell? ⟨w.heap.size + 1, 1, none⟩ = some (.int .i64 d) := HC.out.cell 1
  have kC2 : V0.cell? ⟨w.heap.size + 1, 2, none⟩ = some (.int .i64 1) := HC.out.cell 2
  have kC3 : V0.cell? ⟨w.heap.size + 1, 3, none⟩ = some (.int .i64 le) := HC.out.cell 3
  have kC4 : V0.cell? ⟨w.heap.size + 1, 4, none⟩ = some (.bool wa) := HC.out.cell 4
  have kC5 : V0.cell? ⟨w.heap.size + 1, 5, none⟩ = some (.slice A n c) := HC.out.cell 5
  have kL0 : V0.cell? ⟨w.heap.size + 1 + 1, 0, none⟩ = some (.int .u64 a0) := HL.out.cell 0
  have kL1 : V0.cell? ⟨w.heap.size + 1 + 1, 1, none⟩ = some (.int .u64 a1) := HL.out.cell 1
  have kL2 : V0.cell? ⟨w.heap.size + 1 + 1, 2, none⟩ = some (.int .u64 b0) := HL.out.cell 2
  have kL3 : V0.cell? ⟨w.heap.size + 1 + 1, 3, none⟩ = some (.int .u64 b1) := HL.out.cell 3
  refine (FI.out _ (HSZ.out.kept EE.out) (HRd.out.kept EE.out)).mono ?_
  rintro e v1 ⟨b, rfl, hb, hF⟩
  clear kS0 kS1 kS2 kS3 kS4 kS5 kS6 kS7 kS8 kS9 kS10 kS11 kS12 kC0 kC1 kC2 kC3 kC4 kC5 kL0 kL1 kL2 kL3
  have HS := Lib.hid (Blk.next (w := V0) HS.out hb)
  have HC := Lib.hid (Blk.next (w := V0) HC.out hb)
  have HL := Lib.hid (Blk.next (w := V0) HL.out hb)
  have EE := Lib.hid (EE.out.trans (hb.mono EE.out.size))
  clear hb
  have kS0 : v1.cell? ⟨w.heap.size, 0, none⟩ = some (.int .i64 (s 0)) := HS.out.cell 0
  have kS1 : v1.cell? ⟨w.heap.size, 1, none⟩ = some (.int .i64 (s 1)) := HS.out.cell 1
  have kS2 : v1.cell? ⟨w.heap.size, 2, none⟩ = some (.int .i64 (s 2)) := HS.out.cell 2
  have kS3 : v1.cell? ⟨w.heap.size, 3, none⟩ = some (.int .i64 (s 3)) := HS.out.cell 3
  have kS4 : v1.cell? ⟨w.heap.size, 4, none⟩ = some (.int .i64 (s 4)) := HS.out.cell 4
  have kS5 : v1.cell? ⟨w.heap.size, 5, none⟩ = some (.int .i64 (s 5)) := HS.out.cell 5
  have kS6 : v1.cell? ⟨w.heap.size, 6, none⟩ = some (.int .i64 (s 6)) := HS.out.cell 6
  have kS7 : v1.cell? ⟨w.heap.size, 7, none⟩ = some (.int .i64 (s 7)) := HS.out.cell 7
  have kS8 : v1.cell? ⟨w.heap.size, 8, none⟩ = some (.slice SA sn sc) := HS.out.cell 8
  have kS9 : v1.cell? ⟨w.heap.size, 9, none⟩ = some (.int .i64 (s 9)) := HS.out.cell 9
  have kS10 : v1.cell? ⟨w.heap.size, 10, none⟩ = some (.int .i64 (s 10)) := HS.out.cell 10
  have kS11 : v1.cell? ⟨w.heap.size, 11, none⟩ = some (.int .i64 (s 11)) := HS.out.cell 11
  have kS12 : v1.cell? ⟨w.heap.size, 12, none⟩ = some (.int .i64 (s 12)) := HS.out.cell 12
  have kC0 : v1.cell? ⟨w.heap.size + 1, 0, none⟩ = some (.int .i64 p) := HC.out.cell 0
  have kC1 : v1.cell? ⟨w.heap.size + 1, 1, none⟩ = some (.int .i64 d) := HC.out.cell 1
  have kC2 : v1.cell? ⟨w.heap.size + 1, 2, none⟩ = some (.int .i64 1) := HC.out.cell 2
  have kC3 : v1.cell? ⟨w.heap.size + 1, 3, none⟩ = some (.int .i64 le) := HC.out.cell 3
  have kC4 : v1.cell? ⟨w.heap.size + 1, 4, none⟩ = some (.bool wa) := HC.out.cell 4
  have kC5 : v1.cell? ⟨w.heap.size + 1, 5, none⟩ = some (.slice A n c) := HC.out.cell 5
  have kL0 : v1.cell? ⟨w.heap.size + 1 + 1, 0, none⟩ = some (.int .u64 a0) := HL.out.cell 0
  have kL1 : v1.cell? ⟨w.heap.size + 1 + 1, 1, none⟩ = some (.int .u64 a1) := HL.out.cell 1
  have kL2 : v1.cell? ⟨w.heap.size + 1 + 1, 2, none⟩ = some (.int .u64 b0) := HL.out.cell 2
  have kL3 : v1.cell? ⟨w.heap.size + 1 + 1, 3, none⟩ = some (.int .u64 b1) := HL.out.cell 3
  cases b
  · clear hF
    go_wp2_with fail
    go_ret
    exact ⟨rfl, EE.out⟩
  · obtain ⟨HB, hq0, hq1, hq2⟩ := hF rfl
    have HBh := Lib.hid HB
    have IC := HB.car
    obtain ⟨p0, p1, d0, d1, m0, m1, l0, l1, k1⟩ := IC
    have s00 := HB.s00; have s01 := HB.s01; have s10 := HB.s10; have s11 := HB.s11
    have P1 := Lib.hid p1
    have HDr := Lib.hid (show d = 0 ∨ d = 1 ∨ d = -1 by omega)
    clear HB p1 hF
    have hdn : d ≠ 0 := by first | exact hq1 rfl | exact hq1 trivial | simpa using hq1
    clear hq0 hq1 hq2
    have HD1 : Hid (d = 1 ∨ d = -1) := Lib.hid (by omega)
    obtain ⟨qq, hq⟩ : ∃ q, p / s 1 = q := ⟨_, rfl⟩
    obtain ⟨r, hrr⟩ : ∃ r, p % s 1 = r := ⟨_, rfl⟩
    have ey : p = qq * s 1 + r := by rw [← hq, ← hrr, Int.mul_comm]; exact (Int.mul_ediv_add_emod p (s 1)).symm
    have r0 : 0 ≤ r := by rw [← hrr]; exact Int.emod_nonneg _ (by omega)
    have r1 : r < s 1 := by rw [← hrr]; exact Int.emod_lt_of_pos _ (by omega)
    have T1 : (s 0 - 1) * s 1 ≤ 127 * 16 := Int.mul_le_mul (by omega) (by omega) (by omega) (by omega)
    have P2 := P1.out
    have pB : p ≤ 1048576 := by omega
    obtain ⟨PF, hPF⟩ : ∃ f, passB (rdF z n) (waF z n (s 3) (mem a0 a1) (mem b0 b1)) (laF n (s 3) (mem a0 a1)) (laF n (s 3) (mem b0 b1)) d = f := ⟨_, rfl⟩
    have PI : ∀ f, 0 ≤ f → f ≤ s 0 - 1 → PF f = true → 0 ≤ f + d ∧ f + d ≤ s 0 - 1 := fun f f0 f1 h => pass_in HBh.out (s 3) HD1.out f f0 f1 (by rw [hPF]; exact h)
    have GO : ∀ (x q r : Int), 0 ≤ r → r < s 1 → x = q * s 1 + r → ¬ StopAt (s 1) PF x → r ≠ 0 ∨ (stopB (rdF z n) (waF z n (s 3) (mem a0 a1) (mem b0 b1)) (laF n (s 3) (mem a0 a1)) (laF n (s 3) (mem b0 b1)) q d = false ∧ ofWay (waF z n (s 3) (mem a0 a1) (mem b0 b1)) (laF n (s 3) (mem a0 a1)) (laF n (s 3) (mem b0 b1)) q d = d) := by
      intro x q r r0 r1 e hno
      by_cases h : r = 0
      · right
        obtain ⟨e1, e2⟩ := ediv_of s10 r0 r1 e
        have hp : PF q = true := by
          cases hb : PF q
          · exact absurd ⟨by rw [e2]; exact h, by rw [e1]; exact hb⟩ hno
          · rfl
        rw [← hPF] at hp
        unfold passB at hp
        simpa using hp
      · exact .inl h
    have NG : ∀ (x q r : Int), 0 ≤ r → r < s 1 → x = q * s 1 + r → StopAt (s 1) PF x → r = 0 ∧ (!stopB (rdF z n) (waF z n (s 3) (mem a0 a1) (mem b0 b1)) (laF n (s 3) (mem a0 a1)) (laF n (s 3) (mem b0 b1)) q d && (ofWay (waF z n (s 3) (mem a0 a1) (mem b0 b1)) (laF n (s 3) (mem a0 a1)) (laF n (s 3) (mem b0 b1)) q d == d)) = false := by
      intro x q r r0 r1 e hs
      obtain ⟨e1, e2⟩ := ediv_of s10 r0 r1 e
      unfold StopAt at hs
      rw [e1, e2, ← hPF] at hs
      exact ⟨hs.1, hs.2⟩
    have QX := fun x q r w hr x0 x1 r0 r1 e => QG.out x q r w hr (by omega) s10 s11 s00 s01 x0 x1 r0 r1 e HD1.out (fun f f0 f1 h => PI f f0 f1 (by rw [← hPF]; exact h))
    have RX := fun x q r w hr x0 x1 r0 r1 e => RS.out x q r w hr (by omega) s10 x0 x1 r0 r1 e d0 d1 (by omega)
    obtain ⟨SF, hSF⟩ : ∃ f : Int → Bool, (fun q => stopB (rdF z n) (waF z n (s 3) (mem a0 a1) (mem b0 b1)) (laF n (s 3) (mem a0 a1)) (laF n (s 3) (mem b0 b1)) q d) = f := ⟨_, rfl⟩
    obtain ⟨OF, hOF⟩ : ∃ f : Int → Int, (fun q => ofWay (waF z n (s 3) (mem a0 a1) (mem b0 b1)) (laF n (s 3) (mem a0 a1)) (laF n (s 3) (mem b0 b1)) q d) = f := ⟨_, rfl⟩
    have hS : ∀ q, stopB (rdF z n) (waF z n (s 3) (mem a0 a1) (mem b0 b1)) (laF n (s 3) (mem a0 a1)) (laF n (s 3) (mem b0 b1)) q d = SF q := fun q => by rw [← hSF]
    have hO : ∀ q, ofWay (waF z n (s 3) (mem a0 a1) (mem b0 b1)) (laF n (s 3) (mem a0 a1)) (laF n (s 3) (mem b0 b1)) q d = OF q := fun q => by rw [← hOF]
    simp only [hPF, hS, hO] at QX RX GO NG
    have QXh := Lib.hid QX; have RXh := Lib.hid RX; have GOh := Lib.hid GO; have NGh := Lib.hid NG
    have MB := Lib.hid (fun w hr => QX p qq r w hr p0 P2 r0 r1 ey)
    have DIV := Lib.hid (fun x : Int => (⟨x / s 1, x % s 1, by rw [Int.mul_comm]; exact (Int.mul_ediv_add_emod x (s 1)).symm, Int.emod_nonneg _ (by omega), Int.emod_lt_of_pos _ (by omega)⟩ : ∃ q r : Int, x = q * s 1 + r ∧ 0 ≤ r ∧ r < s 1))
    have T1h := Lib.hid T1
    clear QX RX GO NG PI hPF hSF hOF hS hO QG RS P2 ey r0 r1 hq hrr T1
    go_wp2_with fail
    refine (MB.out _ (HRd.out.kept EE.out)).mono ?_
    rintro e v2 ⟨N, F, rfl, hpos, hF0, hN, FA, hb⟩
    have XF := floor_in s10 hF0.1 hF0.2
    have IN := Lib.hid (fun i (hi : i ≤ N) => (go_within HD1.out hpos p0 P1.out XF.1 XF.2 hi).1)
    have FAh := Lib.hid FA
    clear hpos hF0 FA XF MB
    have hNI : (N : Int) ≤ 2100 := by omega
    have hN0 : (0 : Int) ≤ (N : Int) := Int.natCast_nonneg _
    clear kS0 kS1 kS2 kS3 kS4 kS5 kS6 kS7 kS8 kS9 kS10 kS11 kS12 kC0 kC1 kC2 kC3 kC4 kC5 kL0 kL1 kL2 kL3
    have HS := Lib.hid (Blk.next (w := v1) HS.out hb)
    have HC := Lib.hid (Blk.next (w := v1) HC.out hb)
    have HL := Lib.hid (Blk.next (w := v1) HL.out hb)
    have EE := Lib.hid (EE.out.trans (hb.mono EE.out.size))
    clear hb
    have kS0 : v2.cell? ⟨w.heap.size, 0, none⟩ = some (.int .i64 (s 0)) := HS.out.cell 0
    have kS1 : v2.cell? ⟨w.heap.size, 1, none⟩ = some (.int .i64 (s 1)) := HS.out.cell 1
    have kS2 : v2.cell? ⟨w.heap.size, 2, none⟩ = some (.int .i64 (s 2)) := HS.out.cell 2
    have kS3 : v2.cell? ⟨w.heap.size, 3, none⟩ = some (.int .i64 (s 3)) := HS.out.cell 3
    have kS4 : v2.cell? ⟨w.heap.size, 4, none⟩ = some (.int .i64 (s 4)) := HS.out.cell 4
    have kS5 : v2.cell? ⟨w.heap.size, 5, none⟩ = some (.int .i64 (s 5)) := HS.out.cell 5
    have kS6 : v2.cell? ⟨w.heap.size, 6, none⟩ = some (.int .i64 (s 6)) := HS.out.cell 6
    have kS7 : v2.cell? ⟨w.heap.size, 7, none⟩ = some (.int .i64 (s 7)) := HS.out.cell 7
    have kS8 : v2.cell? ⟨w.heap.size, 8, none⟩ = some (.slice SA sn sc) := HS.out.cell 8
    have kS9 : v2.cell? ⟨w.heap.size, 9, none⟩ = some (.int .i64 (s 9)) := HS.out.cell 9
    have kS10 : v2.cell? ⟨w.heap.size, 10, none⟩ = some (.int .i64 (s 10)) := HS.out.cell 10
    have kS11 : v2.cell? ⟨w.heap.size, 11, none⟩ = some (.int .i64 (s 11)) := HS.out.cell 11
    have kS12 : v2.cell? ⟨w.heap.size, 12, none⟩ = some (.int .i64 (s 12)) := HS.out.cell 12
    have kC0 : v2.cell? ⟨w.heap.size + 1, 0, none⟩ = some (.int .i64 p) := HC.out.cell 0
    have kC1 : v2.cell? ⟨w.heap.size + 1, 1, none⟩ = some (.int .i64 d) := HC.out.cell 1
    have kC2 : v2.cell? ⟨w.heap.size + 1, 2, none⟩ = some (.int .i64 1) := HC.out.cell 2
    have kC3 : v2.cell? ⟨w.heap.size + 1, 3, none⟩ = some (.int .i64 le) := HC.out.cell 3
    have kC4 : v2.cell? ⟨w.heap.size + 1, 4, none⟩ = some (.bool wa) := HC.out.cell 4
    have kC5 : v2.cell? ⟨w.heap.size + 1, 5, none⟩ = some (.slice A n c) := HC.out.cell 5
    have kL0 : v2.cell? ⟨w.heap.size + 1 + 1, 0, none⟩ = some (.int .u64 a0) := HL.out.cell 0
    have kL1 : v2.cell? ⟨w.heap.size + 1 + 1, 1, none⟩ = some (.int .u64 a1) := HL.out.cell 1
    have kL2 : v2.cell? ⟨w.heap.size + 1 + 1, 2, none⟩ = some (.int .u64 b0) := HL.out.cell 2
    have kL3 : v2.cell? ⟨w.heap.size + 1 + 1, 3, none⟩ = some (.int .u64 b1) := HL.out.cell 3
    have lS := HS.out.lt
    have lC := HC.out.lt
    have lL := HL.out.lt
    go_wp2_with fail
    clear kS0 kS1 kS2 kS3 kS4 kS5 kS6 kS7 kS8 kS9 kS10 kS11 kS12 kC0 kC1 kC2 kC3 kC4 kC5 kL0 kL1 kL2 kL3 lS lC lL
    have GS : Blk (v2.alloc (.cells #[.int .i64 p, .int .i64 d, .int .i64 1, .int .i64 le, .bool wa, .slice A n c] 29)) (w.heap.size) 25 #[.int .i64 (s 0), .int .i64 (s 1), .int .i64 (s 2), .int .i64 (s 3), .int .i64 (s 4), .int .i64 (s 5), .int .i64 (s 6), .int .i64 (s 7), .slice SA sn sc, .int .i64 (s 9), .int .i64 (s 10), .int .i64 (s 11), .int .i64 (s 12)] := HS.out.alloc (.cells #[.int .i64 p, .int .i64 d, .int .i64 1, .int .i64 le, .bool wa, .slice A n c] 29)
    have GC : Blk (v2.alloc (.cells #[.int .i64 p, .int .i64 d, .int .i64 1, .int .i64 le, .bool wa, .slice A n c] 29)) (w.heap.size + 1) 29 #[.int .i64 p, .int .i64 d, .int .i64 1, .int .i64 le, .bool wa, .slice A n c] := HC.out.alloc (.cells #[.int .i64 p, .int .i64 d, .int .i64 1, .int .i64 le, .bool wa, .slice A n c] 29)
    have GL : Blk (v2.alloc (.cells #[.int .i64 p, .int .i64 d, .int .i64 1, .int .i64 le, .bool wa, .slice A n c] 29)) (w.heap.size + 1 + 1) 33 #[.int .u64 a0, .int .u64 a1, .int .u64 b0, .int .u64 b1] := HL.out.alloc (.cells #[.int .i64 p, .int .i64 d, .int .i64 1, .int .i64 le, .bool wa, .slice A n c] 29)
    have GX : Blk (v2.alloc (.cells #[.int .i64 p, .int .i64 d, .int .i64 1, .int .i64 le, .bool wa, .slice A n c] 29)) (v2.heap.size) 29 #[.int .i64 p, .int .i64 d, .int .i64 1, .int .i64 le, .bool wa, .slice A n c] := Blk.new v2 _ _
    have GE : Below w.heap.size w (v2.alloc (.cells #[.int .i64 p, .int .i64 d, .int .i64 1, .int .i64 le, .bool wa, .slice A n c] 29)) := EE.out.alloc EE.out.size (.cells #[.int .i64 p, .int .i64 d, .int .i64 1, .int .i64 le, .bool wa, .slice A n c] 29)
    obtain ⟨gx, hgx⟩ : ∃ g, v2.heap.size = g := ⟨_, rfl⟩
    have ne3_0 : gx ≠ w.heap.size := by have := HS.out.lt; omega
    have ne0_3 : w.heap.size ≠ gx := by have := HS.out.lt; omega
    have ne3_1 : gx ≠ w.heap.size + 1 := by have := HC.out.lt; omega
    have ne1_3 : w.heap.size + 1 ≠ gx := by have := HC.out.lt; omega
    have ne3_2 : gx ≠ w.heap.size + 1 + 1 := by have := HL.out.lt; omega
    have ne2_3 : w.heap.size + 1 + 1 ≠ gx := by have := HL.out.lt; omega
    have gegx : w.heap.size ≤ gx := by have := EE.out.size; omega
    rw [hgx] at GX ⊢
    clear hgx
    obtain ⟨v3, hv3⟩ : ∃ V, (v2.alloc (.cells #[.int .i64 p, .int .i64 d, .int .i64 1, .int .i64 le, .bool wa, .slice A n c] 29)) = V := ⟨_, rfl⟩
    rw [hv3] at GS GC GL GX GE ⊢
    have HS := Lib.hid GS
    have HC := Lib.hid GC
    have HL := Lib.hid GL
    have HX := Lib.hid GX
    have EE := Lib.hid GE
    clear hv3 GS GC GL GX GE
    have kS0 : v3.cell? ⟨w.heap.size, 0, none⟩ = some (.int .i64 (s 0)) := HS.out.cell 0
    have kS1 : v3.cell? ⟨w.heap.size, 1, none⟩ = some (.int .i64 (s 1)) := HS.out.cell 1
    have kS2 : v3.cell? ⟨w.heap.size, 2, none⟩ = some (.int .i64 (s 2)) := HS.out.cell 2
    have kS3 : v3.cell? ⟨w.heap.size, 3, none⟩ = some (.int .i64 (s 3)) := HS.out.cell 3
    have kS4 : v3.cell? ⟨w.heap.size, 4, none⟩ = some (.int .i64 (s 4)) := HS.out.cell 4
    have kS5 : v3.cell? ⟨w.heap.size, 5, none⟩ = some (.int .i64 (s 5)) := HS.out.cell 5
    have kS6 : v3.cell? ⟨w.heap.size, 6, none⟩ = some (.int .i64 (s 6)) := HS.out.cell 6
    have kS7 : v3.cell? ⟨w.heap.size, 7, none⟩ = some (.int .i64 (s 7)) := HS.out.cell 7
    have kS8 : v3.cell? ⟨w.heap.size, 8, none⟩ = some (.slice SA sn sc) := HS.out.cell 8
    have kS9 : v3.cell? ⟨w.heap.size, 9, none⟩ = some (.int .i64 (s 9)) := HS.out.cell 9
    have kS10 : v3.cell? ⟨w.heap.size, 10, none⟩ = some (.int .i64 (s 10)) := HS.out.cell 10
    have kS11 : v3.cell? ⟨w.heap.size, 11, none⟩ = some (.int .i64 (s 11)) := HS.out.cell 11
    have kS12 : v3.cell? ⟨w.heap.size, 12, none⟩ = some (.int .i64 (s 12)) := HS.out.cell 12
    have kC0 : v3.cell? ⟨w.heap.size + 1, 0, none⟩ = some (.int .i64 p) := HC.out.cell 0
    have kC1 : v3.cell? ⟨w.heap.size + 1, 1, none⟩ = some (.int .i64 d) := HC.out.cell 1
    have kC2 : v3.cell? ⟨w.heap.size + 1, 2, none⟩ = some (.int .i64 1) := HC.out.cell 2
    have kC3 : v3.cell? ⟨w.heap.size + 1, 3, none⟩ = some (.int .i64 le) := HC.out.cell 3
    have kC4 : v3.cell? ⟨w.heap.size + 1, 4, none⟩ = some (.bool wa) := HC.out.cell 4
    have kC5 : v3.cell? ⟨w.heap.size + 1, 5, none⟩ = some (.slice A n c) := HC.out.cell 5
    have kL0 : v3.cell? ⟨w.heap.size + 1 + 1, 0, none⟩ = some (.int .u64 a0) := HL.out.cell 0
    have kL1 : v3.cell? ⟨w.heap.size + 1 + 1, 1, none⟩ = some (.int .u64 a1) := HL.out.cell 1
    have kL2 : v3.cell? ⟨w.heap.size + 1 + 1, 2, none⟩ = some (.int .u64 b0) := HL.out.cell 2
    have kL3 : v3.cell? ⟨w.heap.size + 1 + 1, 3, none⟩ = some (.int .u64 b1) := HL.out.cell 3
    have kX0 : v3.cell? ⟨gx, 0, none⟩ = some (.int .i64 p) := HX.out.cell 0
    have kX1 : v3.cell? ⟨gx, 1, none⟩ = some (.int .i64 d) := HX.out.cell 1
    have kX2 : v3.cell? ⟨gx, 2, none⟩ = some (.int .i64 1) := HX.out.cell 2
    have kX3 : v3.cell? ⟨gx, 3, none⟩ = some (.int .i64 le) := HX.out.cell 3
    have kX4 : v3.cell? ⟨gx, 4, none⟩ = some (.bool wa) := HX.out.cell 4
    have kX5 : v3.cell? ⟨gx, 5, none⟩ = some (.slice A n c) := HX.out.cell 5
    go_loopw [10, 11, 12, 13] (fun kv _ _ _ wr => ∃ (k : Nat) (x : Int), k ≤ N ∧ kv = .int .i64 ((k : Int) + 1) ∧ Hid (x = p + (k : Int) * d) ∧ Hid (Blk wr (w.heap.size) 25 #[.int .i64 (s 0), .int .i64 (s 1), .int .i64 (s 2), .int .i64 (s 3), .int .i64 (s 4), .int .i64 (s 5), .int .i64 (s 6), .int .i64 (s 7), .slice SA sn sc, .int .i64 (s 9), .int .i64 (s 10), .int .i64 (s 11), .int .i64 (s 12)]) ∧ Hid (Blk wr (w.heap.size + 1) 29 #[.int .i64 p, .int .i64 d, .int .i64 1, .int .i64 le, .bool wa, .slice A n c]) ∧ Hid (Blk wr (w.heap.size + 1 + 1) 33 #[.int .u64 a0, .int .u64 a1, .int .u64 b0, .int .u64 b1]) ∧ Hid (Blk wr (gx) 29 #[.int .i64 x, .int .i64 d, .int .i64 1, .int .i64 le, .bool wa, .slice A n c]) ∧ Below w.heap.size w wr) (fun kv _ _ _ _ => N + 2 - (intOf kv).toNat)
    case atStart => exact ⟨0, p, by omega, rfl, Lib.hid (by simp), HS, HC, HL, HX, EE.out⟩
    case round =>
      obtain ⟨k, x, hk, rfl, HY, HS', HC', HL', HX', hbE⟩ := hrel
      have hk0 : (0 : Int) ≤ (k : Int) := Int.natCast_nonneg _
      have hkI : (k : Int) ≤ 2100 := by omega
      have hxb := IN.out k hk
      rw [← HY.out] at hxb
      obtain ⟨x0, x1⟩ := hxb
      have X1 := Lib.hid x1
      have xB : x ≤ 2032 := by have := T1h.out; omega
      clear x1
      obtain ⟨q, r, ex, r0, r1⟩ := DIV.out x
      have RSk := fun w hr => RXh.out x q r w hr x0 (by omega) r0 r1 ex
      clear kS0 kS1 kS2 kS3 kS4 kS5 kS6 kS7 kS8 kS9 kS10 kS11 kS12 kC0 kC1 kC2 kC3 kC4 kC5 kL0 kL1 kL2 kL3 kX0 kX1 kX2 kX3 kX4 kX5
      have HS := HS'; have HC := HC'; have HL := HL'; have HX := HX'; have EE := Lib.hid hbE
      clear HS' HC' HL' HX' hbE
      have kS0 : wr.cell? ⟨w.heap.size, 0, none⟩ = some (.int .i64 (s 0)) := HS.out.cell 0
      have kS1 : wr.cell? ⟨w.heap.size, 1, none⟩ = some (.int .i64 (s 1)) := HS.out.cell 1
      have kS2 : wr.cell? ⟨w.heap.size, 2, none⟩ = some (.int .i64 (s 2)) := HS.out.cell 2
      have kS3 : wr.cell? ⟨w.heap.size, 3, none⟩ = some (.int .i64 (s 3)) := HS.out.cell 3
      have kS4 : wr.cell? ⟨w.heap.size, 4, none⟩ = some (.int .i64 (s 4)) := HS.out.cell 4
      have kS5 : wr.cell? ⟨w.heap.size, 5, none⟩ = some (.int .i64 (s 5)) := HS.out.cell 5
      have kS6 : wr.cell? ⟨w.heap.size, 6, none⟩ = some (.int .i64 (s 6)) := HS.out.cell 6
      have kS7 : wr.cell? ⟨w.heap.size, 7, none⟩ = some (.int .i64 (s 7)) := HS.out.cell 7
      have kS8 : wr.cell? ⟨w.heap.size, 8, none⟩ = some (.slice SA sn sc) := HS.out.cell 8
      have kS9 : wr.cell? ⟨w.heap.size, 9, none⟩ = some (.int .i64 (s 9)) := HS.out.cell 9
      have kS10 : wr.cell? ⟨w.heap.size, 10, none⟩ = some (.int .i64 (s 10)) := HS.out.cell 10
      have kS11 : wr.cell? ⟨w.heap.size, 11, none⟩ = some (.int .i64 (s 11)) := HS.out.cell 11
      have kS12 : wr.cell? ⟨w.heap.size, 12, none⟩ = some (.int .i64 (s 12)) := HS.out.cell 12
      have kC0 : wr.cell? ⟨w.heap.size + 1, 0, none⟩ = some (.int .i64 p) := HC.out.cell 0
      have kC1 : wr.cell? ⟨w.heap.size + 1, 1, none⟩ = some (.int .i64 d) := HC.out.cell 1
      have kC2 : wr.cell? ⟨w.heap.size + 1, 2, none⟩ = some (.int .i64 1) := HC.out.cell 2
      have kC3 : wr.cell? ⟨w.heap.size + 1, 3, none⟩ = some (.int .i64 le) := HC.out.cell 3
      have kC4 : wr.cell? ⟨w.heap.size + 1, 4, none⟩ = some (.bool wa) := HC.out.cell 4
      have kC5 : wr.cell? ⟨w.heap.size + 1, 5, none⟩ = some (.slice A n c) := HC.out.cell 5
      have kL0 : wr.cell? ⟨w.heap.size + 1 + 1, 0, none⟩ = some (.int .u64 a0) := HL.out.cell 0
      have kL1 : wr.cell? ⟨w.heap.size + 1 + 1, 1, none⟩ = some (.int .u64 a1) := HL.out.cell 1
      have kL2 : wr.cell? ⟨w.heap.size + 1 + 1, 2, none⟩ = some (.int .u64 b0) := HL.out.cell 2
      have kL3 : wr.cell? ⟨w.heap.size + 1 + 1, 3, none⟩ = some (.int .u64 b1) := HL.out.cell 3
      have kX0 : wr.cell? ⟨gx, 0, none⟩ = some (.int .i64 x) := HX.out.cell 0
      have kX1 : wr.cell? ⟨gx, 1, none⟩ = some (.int .i64 d) := HX.out.cell 1
      have kX2 : wr.cell? ⟨gx, 2, none⟩ = some (.int .i64 1) := HX.out.cell 2
      have kX3 : wr.cell? ⟨gx, 3, none⟩ = some (.int .i64 le) := HX.out.cell 3
      have kX4 : wr.cell? ⟨gx, 4, none⟩ = some (.bool wa) := HX.out.cell 4
      have kX5 : wr.cell? ⟨gx, 5, none⟩ = some (.slice A n c) := HX.out.cell 5
      by_cases h : k < N
      · have hno : ¬ StopAt (s 1) PF x := by rw [HY.out]; exact FAh.out.none k h
        obtain ⟨g0, g1', g2, g3⟩ := stp_on (p := x) (le := le) (op := s 4) (GOh.out x q r r0 r1 ex hno) HD1.out
        simp only [g0, g1', g2, g3] at RSk
        replace RSk := Lib.hid RSk
        have HY1 : Hid (x + d = p + ((k + 1 : Nat) : Int) * d) := Lib.hid (by
          have h := HY.out
          have e2 : ((k + 1 : Nat) : Int) * d = k * d + d := by rw [Int.natCast_add, Int.add_mul]; simp
          rw [e2]; omega)
        have hyb := IN.out (k + 1) (by omega)
        rw [← HY1.out] at hyb
        obtain ⟨yb0, yb1⟩ := hyb
        obtain ⟨q9, r9, ex9, r90, r91⟩ := DIV.out (x + d)
        have QN := Lib.hid (fun w hr => QXh.out (x + d) q9 r9 w hr yb0 yb1 r90 r91 ex9)
        have FS : Hid (FirstAt (s 1) PF (x + d) d (N - (k + 1))) := Lib.hid (by rw [HY1.out]; exact FAh.out.shift (by omega))
        obtain ⟨h2, hh2⟩ : ∃ v, ((k : Int) + 1) / 2 = v := ⟨_, rfl⟩
        have h2c : 0 ≤ h2 := by omega
        have h2d : h2 ≤ (k : Int) + 1 := by omega
        obtain ⟨g9, hg9⟩ : ∃ v, (k : Int) + 1 - h2 = v := ⟨_, rfl⟩
        have g9b : 0 ≤ g9 := by omega
        have mid : 0 ≤ p + h2 * d ∧ p + h2 * d ≤ 5000 := by
          have hm := IN.out h2.toNat (by omega)
          rw [Int.toNat_of_nonneg h2c] at hm
          have := T1h.out; omega
        have eA1 : p + ((k : Int) + 1) * d = x + d := by rw [HY.out, Int.add_mul]; omega
        have eA3 : p + h2 * d + g9 * d = x + d := by rw [← hg9, Int.sub_mul, ← eA1]; omega
        have A1 := fun w hr => AF.out p ((k : Int) + 1) A n c z w hr (by omega) (by omega) (by omega) p0 (by have := P1.out; have := T1h.out; omega) (by omega)
        rw [eA1] at A1
        replace A1 := Lib.hid A1
        have A2 := Lib.hid (fun w hr => AF.out p h2 A n c z w hr (by omega) (by omega) (by omega) p0 (by have := P1.out; have := T1h.out; omega) (by omega))
        have A3 := fun A c w hr => AF.out (p + h2 * d) g9 A n c z w hr (by omega) (by omega) (by omega) mid.1 mid.2 (by omega)
        rw [eA3] at A3
        replace A3 := Lib.hid A3
        obtain ⟨mp, hmp⟩ : ∃ v, p + h2 * d = v := ⟨_, rfl⟩
        rw [hmp] at A2 A3
        have q1 : IntKind.i64.wrap (Int.tdiv ((k : Int) + 1) 2) = h2 := by
          rw [Int.tdiv_eq_ediv_of_nonneg (by omega), hh2]; exact IntWalk.i64_in _ (by omega)
        have q3 : IntKind.i64.wrap ((k : Int) + 1 - h2) = g9 := by rw [hg9]; exact IntWalk.i64_in _ (by omega)
        have q4 : IntKind.i64.wrap ((N : Int) + 1 - ((k : Int) + 1)) = (N : Int) - k := by
          rw [show (N : Int) + 1 - ((k : Int) + 1) = (N : Int) - k by omega]; exact IntWalk.i64_in _ (by omega)
        have q5 : ((N : Int) - k != (N : Int) - k) = false := by simp
        clear hg9 hh2 g0 g1' g2 g3 ex ex9 yb1 mid eA1 eA3 hmp hno r90 r91 r0 r1
        clear kS0 kS1 kS2 kS3 kS4 kS5 kS6 kS7 kS8 kS9 kS10 kS11 kS12 kC0 kC1 kC2 kC3 kC4 kC5 kL0 kL1 kL2 kL3 kX0 kX1 kX2 kX3 kX4 kX5
        have kS0 : wr.cell? ⟨w.heap.size, 0, none⟩ = some (.int .i64 (s 0)) := HS.out.cell 0
        have kS1 : wr.cell? ⟨w.heap.size, 1, none⟩ = some (.int .i64 (s 1)) := HS.out.cell 1
        have kS2 : wr.cell? ⟨w.heap.size, 2, none⟩ = some (.int .i64 (s 2)) := HS.out.cell 2
        have kS3 : wr.cell? ⟨w.heap.size, 3, none⟩ = some (.int .i64 (s 3)) := HS.out.cell 3
        have kS4 : wr.cell? ⟨w.heap.size, 4, none⟩ = some (.int .i64 (s 4)) := HS.out.cell 4
        have kS5 : wr.cell? ⟨w.heap.size, 5, none⟩ = some (.int .i64 (s 5)) := HS.out.cell 5
        have kS6 : wr.cell? ⟨w.heap.size, 6, none⟩ = some (.int .i64 (s 6)) := HS.out.cell 6
        have kS7 : wr.cell? ⟨w.heap.size, 7, none⟩ = some (.int .i64 (s 7)) := HS.out.cell 7
        have kS8 : wr.cell? ⟨w.heap.size, 8, none⟩ = some (.slice SA sn sc) := HS.out.cell 8
        have kS9 : wr.cell? ⟨w.heap.size, 9, none⟩ = some (.int .i64 (s 9)) := HS.out.cell 9
        have kS10 : wr.cell? ⟨w.heap.size, 10, none⟩ = some (.int .i64 (s 10)) := HS.out.cell 10
        have kS11 : wr.cell? ⟨w.heap.size, 11, none⟩ = some (.int .i64 (s 11)) := HS.out.cell 11
        have kS12 : wr.cell? ⟨w.heap.size, 12, none⟩ = some (.int .i64 (s 12)) := HS.out.cell 12
        have kC0 : wr.cell? ⟨w.heap.size + 1, 0, none⟩ = some (.int .i64 p) := HC.out.cell 0
        have kC1 : wr.cell? ⟨w.heap.size + 1, 1, none⟩ = some (.int .i64 d) := HC.out.cell 1
        have kC2 : wr.cell? ⟨w.heap.size + 1, 2, none⟩ = some (.int .i64 1) := HC.out.cell 2
        have kC3 : wr.cell? ⟨w.heap.size + 1, 3, none⟩ = some (.int .i64 le) := HC.out.cell 3
        have kC4 : wr.cell? ⟨w.heap.size + 1, 4, none⟩ = some (.bool wa) := HC.out.cell 4
        have kC5 : wr.cell? ⟨w.heap.size + 1, 5, none⟩ = some (.slice A n c) := HC.out.cell 5
        have kL0 : wr.cell? ⟨w.heap.size + 1 + 1, 0, none⟩ = some (.int .u64 a0) := HL.out.cell 0
        have kL1 : wr.cell? ⟨w.heap.size + 1 + 1, 1, none⟩ = some (.int .u64 a1) := HL.out.cell 1
        have kL2 : wr.cell? ⟨w.heap.size + 1 + 1, 2, none⟩ = some (.int .u64 b0) := HL.out.cell 2
        have kL3 : wr.cell? ⟨w.heap.size + 1 + 1, 3, none⟩ = some (.int .u64 b1) := HL.out.cell 3
        have kX0 : wr.cell? ⟨gx, 0, none⟩ = some (.int .i64 x) := HX.out.cell 0
        have jX0 : wr.frozen? ⟨gx, 0, none⟩ = false := HX.out.frozen 0
        have kX1 : wr.cell? ⟨gx, 1, none⟩ = some (.int .i64 d) := HX.out.cell 1
        have jX1 : wr.frozen? ⟨gx, 1, none⟩ = false := HX.out.frozen 1
        have kX2 : wr.cell? ⟨gx, 2, none⟩ = some (.int .i64 1) := HX.out.cell 2
        have jX2 : wr.frozen? ⟨gx, 2, none⟩ = false := HX.out.frozen 2
        have kX3 : wr.cell? ⟨gx, 3, none⟩ = some (.int .i64 le) := HX.out.cell 3
        have jX3 : wr.frozen? ⟨gx, 3, none⟩ = false := HX.out.frozen 3
        have kX4 : wr.cell? ⟨gx, 4, none⟩ = some (.bool wa) := HX.out.cell 4
        have jX4 : wr.frozen? ⟨gx, 4, none⟩ = false := HX.out.frozen 4
        have kX5 : wr.cell? ⟨gx, 5, none⟩ = some (.slice A n c) := HX.out.cell 5
        have jX5 : wr.frozen? ⟨gx, 5, none⟩ = false := HX.out.frozen 5
        go_wp2_with fail
        refine (RSk.out _ (HRd.out.kept EE.out)).mono ?_
        rintro e v4 ⟨rfl, hb⟩
        clear kS0 kS1 kS2 kS3 kS4 kS5 kS6 kS7 kS8 kS9 kS10 kS11 kS12 kC0 kC1 kC2 kC3 kC4 kC5 kL0 kL1 kL2 kL3 kX0 jX0 kX1 jX1 kX2 jX2 kX3 jX3 kX4 jX4 kX5 jX5
        have HS := Lib.hid (Blk.next (w := wr) HS.out hb)
        have HC := Lib.hid (Blk.next (w := wr) HC.out hb)
        have HL := Lib.hid (Blk.next (w := wr) HL.out hb)
        have HX := Lib.hid (Blk.next (w := wr) HX.out hb)
        have EE := Lib.hid (EE.out.trans (hb.mono EE.out.size))
        clear hb
        have kS0 : v4.cell? ⟨w.heap.size, 0, none⟩ = some (.int .i64 (s 0)) := HS.out.cell 0
        have kS1 : v4.cell? ⟨w.heap.size, 1, none⟩ = some (.int .i64 (s 1)) := HS.out.cell 1
        have kS2 : v4.cell? ⟨w.heap.size, 2, none⟩ = some (.int .i64 (s 2)) := HS.out.cell 2
        have kS3 : v4.cell? ⟨w.heap.size, 3, none⟩ = some (.int .i64 (s 3)) := HS.out.cell 3
        have kS4 : v4.cell? ⟨w.heap.size, 4, none⟩ = some (.int .i64 (s 4)) := HS.out.cell 4
        have kS5 : v4.cell? ⟨w.heap.size, 5, none⟩ = some (.int .i64 (s 5)) := HS.out.cell 5
        have kS6 : v4.cell? ⟨w.heap.size, 6, none⟩ = some (.int .i64 (s 6)) := HS.out.cell 6
        have kS7 : v4.cell? ⟨w.heap.size, 7, none⟩ = some (.int .i64 (s 7)) := HS.out.cell 7
        have kS8 : v4.cell? ⟨w.heap.size, 8, none⟩ = some (.slice SA sn sc) := HS.out.cell 8
        have kS9 : v4.cell? ⟨w.heap.size, 9, none⟩ = some (.int .i64 (s 9)) := HS.out.cell 9
        have kS10 : v4.cell? ⟨w.heap.size, 10, none⟩ = some (.int .i64 (s 10)) := HS.out.cell 10
        have kS11 : v4.cell? ⟨w.heap.size, 11, none⟩ = some (.int .i64 (s 11)) := HS.out.cell 11
        have kS12 : v4.cell? ⟨w.heap.size, 12, none⟩ = some (.int .i64 (s 12)) := HS.out.cell 12
        have kC0 : v4.cell? ⟨w.heap.size + 1, 0, none⟩ = some (.int .i64 p) := HC.out.cell 0
        have kC1 : v4.cell? ⟨w.heap.size + 1, 1, none⟩ = some (.int .i64 d) := HC.out.cell 1
        have kC2 : v4.cell? ⟨w.heap.size + 1, 2, none⟩ = some (.int .i64 1) := HC.out.cell 2
        have kC3 : v4.cell? ⟨w.heap.size + 1, 3, none⟩ = some (.int .i64 le) := HC.out.cell 3
        have kC4 : v4.cell? ⟨w.heap.size + 1, 4, none⟩ = some (.bool wa) := HC.out.cell 4
        have kC5 : v4.cell? ⟨w.heap.size + 1, 5, none⟩ = some (.slice A n c) := HC.out.cell 5
        have kL0 : v4.cell? ⟨w.heap.size + 1 + 1, 0, none⟩ = some (.int .u64 a0) := HL.out.cell 0
        have kL1 : v4.cell? ⟨w.heap.size + 1 + 1, 1, none⟩ = some (.int .u64 a1) := HL.out.cell 1
        have kL2 : v4.cell? ⟨w.heap.size + 1 + 1, 2, none⟩ = some (.int .u64 b0) := HL.out.cell 2
        have kL3 : v4.cell? ⟨w.heap.size + 1 + 1, 3, none⟩ = some (.int .u64 b1) := HL.out.cell 3
        have kX0 : v4.cell? ⟨gx, 0, none⟩ = some (.int .i64 x) := HX.out.cell 0
        have jX0 : v4.frozen? ⟨gx, 0, none⟩ = false := HX.out.frozen 0
        have kX1 : v4.cell? ⟨gx, 1, none⟩ = some (.int .i64 d) := HX.out.cell 1
        have jX1 : v4.frozen? ⟨gx, 1, none⟩ = false := HX.out.frozen 1
        have kX2 : v4.cell? ⟨gx, 2, none⟩ = some (.int .i64 1) := HX.out.cell 2
        have jX2 : v4.frozen? ⟨gx, 2, none⟩ = false := HX.out.frozen 2
        have kX3 : v4.cell? ⟨gx, 3, none⟩ = some (.int .i64 le) := HX.out.cell 3
        have jX3 : v4.frozen? ⟨gx, 3, none⟩ = false := HX.out.frozen 3
        have kX4 : v4.cell? ⟨gx, 4, none⟩ = some (.bool wa) := HX.out.cell 4
        have jX4 : v4.frozen? ⟨gx, 4, none⟩ = false := HX.out.frozen 4
        have kX5 : v4.cell? ⟨gx, 5, none⟩ = some (.slice A n c) := HX.out.cell 5
        have jX5 : v4.frozen? ⟨gx, 5, none⟩ = false := HX.out.frozen 5
        go_wp2_with fail
        clear kS0 kS1 kS2 kS3 kS4 kS5 kS6 kS7 kS8 kS9 kS10 kS11 kS12 kC0 kC1 kC2 kC3 kC4 kC5 kL0 kL1 kL2 kL3 kX0 jX0 kX1 jX1 kX2 jX2 kX3 jX3 kX4 jX4 kX5 jX5
        have GS : Blk ((((((v4.setCell ⟨gx, 0, none⟩ (.int .i64 (x + d))).setCell ⟨gx, 1, none⟩ (.int .i64 d)).setCell ⟨gx, 2, none⟩ (.int .i64 1)).setCell ⟨gx, 3, none⟩ (.int .i64 le)).setCell ⟨gx, 4, none⟩ (.bool wa)).setCell ⟨gx, 5, none⟩ (.slice A n c)) (w.heap.size) 25 #[.int .i64 (s 0), .int .i64 (s 1), .int .i64 (s 2), .int .i64 (s 3), .int .i64 (s 4), .int .i64 (s 5), .int .i64 (s 6), .int .i64 (s 7), .slice SA sn sc, .int .i64 (s 9), .int .i64 (s 10), .int .i64 (s 11), .int .i64 (s 12)] := ((((((HS.out.far (p := ⟨gx, 0, none⟩) ne0_3 (.int .i64 (x + d))).far (p := ⟨gx, 1, none⟩) ne0_3 (.int .i64 d)).far (p := ⟨gx, 2, none⟩) ne0_3 (.int .i64 1)).far (p := ⟨gx, 3, none⟩) ne0_3 (.int .i64 le)).far (p := ⟨gx, 4, none⟩) ne0_3 (.bool wa)).far (p := ⟨gx, 5, none⟩) ne0_3 (.slice A n c))
        have GC : Blk ((((((v4.setCell ⟨gx, 0, none⟩ (.int .i64 (x + d))).setCell ⟨gx, 1, none⟩ (.int .i64 d)).setCell ⟨gx, 2, none⟩ (.int .i64 1)).setCell ⟨gx, 3, none⟩ (.int .i64 le)).setCell ⟨gx, 4, none⟩ (.bool wa)).setCell ⟨gx, 5, none⟩ (.slice A n c)) (w.heap.size + 1) 29 #[.int .i64 p, .int .i64 d, .int .i64 1, .int .i64 le, .bool wa, .slice A n c] := ((((((HC.out.far (p := ⟨gx, 0, none⟩) ne1_3 (.int .i64 (x + d))).far (p := ⟨gx, 1, none⟩) ne1_3 (.int .i64 d)).far (p := ⟨gx, 2, none⟩) ne1_3 (.int .i64 1)).far (p := ⟨gx, 3, none⟩) ne1_3 (.int .i64 le)).far (p := ⟨gx, 4, none⟩) ne1_3 (.bool wa)).far (p := ⟨gx, 5, none⟩) ne1_3 (.slice A n c))
        have GL : Blk ((((((v4.setCell ⟨gx, 0, none⟩ (.int .i64 (x + d))).setCell ⟨gx, 1, none⟩ (.int .i64 d)).setCell ⟨gx, 2, none⟩ (.int .i64 1)).setCell ⟨gx, 3, none⟩ (.int .i64 le)).setCell ⟨gx, 4, none⟩ (.bool wa)).setCell ⟨gx, 5, none⟩ (.slice A n c)) (w.heap.size + 1 + 1) 33 #[.int .u64 a0, .int .u64 a1, .int .u64 b0, .int .u64 b1] := ((((((HL.out.far (p := ⟨gx, 0, none⟩) ne2_3 (.int .i64 (x + d))).far (p := ⟨gx, 1, none⟩) ne2_3 (.int .i64 d)).far (p := ⟨gx, 2, none⟩) ne2_3 (.int .i64 1)).far (p := ⟨gx, 3, none⟩) ne2_3 (.int .i64 le)).far (p := ⟨gx, 4, none⟩) ne2_3 (.bool wa)).far (p := ⟨gx, 5, none⟩) ne2_3 (.slice A n c))
        have GX : Blk ((((((v4.setCell ⟨gx, 0, none⟩ (.int .i64 (x + d))).setCell ⟨gx, 1, none⟩ (.int .i64 d)).setCell ⟨gx, 2, none⟩ (.int .i64 1)).setCell ⟨gx, 3, none⟩ (.int .i64 le)).setCell ⟨gx, 4, none⟩ (.bool wa)).setCell ⟨gx, 5, none⟩ (.slice A n c)) (gx) 29 #[.int .i64 (x + d), .int .i64 d, .int .i64 1, .int .i64 le, .bool wa, .slice A n c] := ((((((HX.out.set 0 (.int .i64 (x + d))).set 1 (.int .i64 d)).set 2 (.int .i64 1)).set 3 (.int .i64 le)).set 4 (.bool wa)).set 5 (.slice A n c))
        have GE : Below w.heap.size w ((((((v4.setCell ⟨gx, 0, none⟩ (.int .i64 (x + d))).setCell ⟨gx, 1, none⟩ (.int .i64 d)).setCell ⟨gx, 2, none⟩ (.int .i64 1)).setCell ⟨gx, 3, none⟩ (.int .i64 le)).setCell ⟨gx, 4, none⟩ (.bool wa)).setCell ⟨gx, 5, none⟩ (.slice A n c)) := ((((((EE.out.setCell (p := ⟨gx, 0, none⟩) (by show w.heap.size ≤ gx; omega) (.int .i64 (x + d))).setCell (p := ⟨gx, 1, none⟩) (by show w.heap.size ≤ gx; omega) (.int .i64 d)).setCell (p := ⟨gx, 2, none⟩) (by show w.heap.size ≤ gx; omega) (.int .i64 1)).setCell (p := ⟨gx, 3, none⟩) (by show w.heap.size ≤ gx; omega) (.int .i64 le)).setCell (p := ⟨gx, 4, none⟩) (by show w.heap.size ≤ gx; omega) (.bool wa)).setCell (p := ⟨gx, 5, none⟩) (by show w.heap.size ≤ gx; omega) (.slice A n c))
        obtain ⟨v5, hv5⟩ : ∃ V, ((((((v4.setCell ⟨gx, 0, none⟩ (.int .i64 (x + d))).setCell ⟨gx, 1, none⟩ (.int .i64 d)).setCell ⟨gx, 2, none⟩ (.int .i64 1)).setCell ⟨gx, 3, none⟩ (.int .i64 le)).setCell ⟨gx, 4, none⟩ (.bool wa)).setCell ⟨gx, 5, none⟩ (.slice A n c)) = V := ⟨_, rfl⟩
        rw [hv5] at GS GC GL GX GE ⊢
        have HS := Lib.hid GS
        have HC := Lib.hid GC
        have HL := Lib.hid GL
        have HX := Lib.hid GX
        have EE := Lib.hid GE
        clear hv5 GS GC GL GX GE
        have kS0 : v5.cell? ⟨w.heap.size, 0, none⟩ = some (.int .i64 (s 0)) := HS.out.cell 0
        have kS1 : v5.cell? ⟨w.heap.size, 1, none⟩ = some (.int .i64 (s 1)) := HS.out.cell 1
        have kS2 : v5.cell? ⟨w.heap.size, 2, none⟩ = some (.int .i64 (s 2)) := HS.out.cell 2
        have kS3 : v5.cell? ⟨w.heap.size, 3, none⟩ = some (.int .i64 (s 3)) := HS.out.cell 3
        have kS4 : v5.cell? ⟨w.heap.size, 4, none⟩ = some (.int .i64 (s 4)) := HS.out.cell 4
        have kS5 : v5.cell? ⟨w.heap.size, 5, none⟩ = some (.int .i64 (s 5)) := HS.out.cell 5
        have kS6 : v5.cell? ⟨w.heap.size, 6, none⟩ = some (.int .i64 (s 6)) := HS.out.cell 6
        have kS7 : v5.cell? ⟨w.heap.size, 7, none⟩ = some (.int .i64 (s 7)) := HS.out.cell 7
        have kS8 : v5.cell? ⟨w.heap.size, 8, none⟩ = some (.slice SA sn sc) := HS.out.cell 8
        have kS9 : v5.cell? ⟨w.heap.size, 9, none⟩ = some (.int .i64 (s 9)) := HS.out.cell 9
        have kS10 : v5.cell? ⟨w.heap.size, 10, none⟩ = some (.int .i64 (s 10)) := HS.out.cell 10
        have kS11 : v5.cell? ⟨w.heap.size, 11, none⟩ = some (.int .i64 (s 11)) := HS.out.cell 11
        have kS12 : v5.cell? ⟨w.heap.size, 12, none⟩ = some (.int .i64 (s 12)) := HS.out.cell 12
        have kC0 : v5.cell? ⟨w.heap.size + 1, 0, none⟩ = some (.int .i64 p) := HC.out.cell 0
        have kC1 : v5.cell? ⟨w.heap.size + 1, 1, none⟩ = some (.int .i64 d) := HC.out.cell 1
        have kC2 : v5.cell? ⟨w.heap.size + 1, 2, none⟩ = some (.int .i64 1) := HC.out.cell 2
        have kC3 : v5.cell? ⟨w.heap.size + 1, 3, none⟩ = some (.int .i64 le) := HC.out.cell 3
        have kC4 : v5.cell? ⟨w.heap.size + 1, 4, none⟩ = some (.bool wa) := HC.out.cell 4
        have kC5 : v5.cell? ⟨w.heap.size + 1, 5, none⟩ = some (.slice A n c) := HC.out.cell 5
        have kL0 : v5.cell? ⟨w.heap.size + 1 + 1, 0, none⟩ = some (.int .u64 a0) := HL.out.cell 0
        have kL1 : v5.cell? ⟨w.heap.size + 1 + 1, 1, none⟩ = some (.int .u64 a1) := HL.out.cell 1
        have kL2 : v5.cell? ⟨w.heap.size + 1 + 1, 2, none⟩ = some (.int .u64 b0) := HL.out.cell 2
        have kL3 : v5.cell? ⟨w.heap.size + 1 + 1, 3, none⟩ = some (.int .u64 b1) := HL.out.cell 3
        have kX0 : v5.cell? ⟨gx, 0, none⟩ = some (.int .i64 (x + d)) := HX.out.cell 0
        have jX0 : v5.frozen? ⟨gx, 0, none⟩ = false := HX.out.frozen 0
        have kX1 : v5.cell? ⟨gx, 1, none⟩ = some (.int .i64 d) := HX.out.cell 1
        have jX1 : v5.frozen? ⟨gx, 1, none⟩ = false := HX.out.frozen 1
        have kX2 : v5.cell? ⟨gx, 2, none⟩ = some (.int .i64 1) := HX.out.cell 2
        have jX2 : v5.frozen? ⟨gx, 2, none⟩ = false := HX.out.frozen 2
        have kX3 : v5.cell? ⟨gx, 3, none⟩ = some (.int .i64 le) := HX.out.cell 3
        have jX3 : v5.frozen? ⟨gx, 3, none⟩ = false := HX.out.frozen 3
        have kX4 : v5.cell? ⟨gx, 4, none⟩ = some (.bool wa) := HX.out.cell 4
        have jX4 : v5.frozen? ⟨gx, 4, none⟩ = false := HX.out.frozen 4
        have kX5 : v5.cell? ⟨gx, 5, none⟩ = some (.slice A n c) := HX.out.cell 5
        have jX5 : v5.frozen? ⟨gx, 5, none⟩ = false := HX.out.frozen 5
        refine (A1.out _ (HRd.out.kept EE.out)).mono ?_
        rintro e v6 ⟨B', e', rfl, hR', _, hb⟩
        have HN := Lib.hid hR'
        clear hR'
        clear kS0 kS1 kS2 kS3 kS4 kS5 kS6 kS7 kS8 kS9 kS10 kS11 kS12 kC0 kC1 kC2 kC3 kC4 kC5 kL0 kL1 kL2 kL3 kX0 jX0 kX1 jX1 kX2 jX2 kX3 jX3 kX4 jX4 kX5 jX5
        have HS := Lib.hid (Blk.next (w := v5) HS.out hb)
        have HC := Lib.hid (Blk.next (w := v5) HC.out hb)
        have HL := Lib.hid (Blk.next (w := v5) HL.out hb)
        have HX := Lib.hid (Blk.next (w := v5) HX.out hb)
        have EE := Lib.hid (EE.out.trans (hb.mono EE.out.size))
        clear hb
        have kS0 : v6.cell? ⟨w.heap.size, 0, none⟩ = some (.int .i64 (s 0)) := HS.out.cell 0
        have kS1 : v6.cell? ⟨w.heap.size, 1, none⟩ = some (.int .i64 (s 1)) := HS.out.cell 1
        have kS2 : v6.cell? ⟨w.heap.size, 2, none⟩ = some (.int .i64 (s 2)) := HS.out.cell 2
        have kS3 : v6.cell? ⟨w.heap.size, 3, none⟩ = some (.int .i64 (s 3)) := HS.out.cell 3
        have kS4 : v6.cell? ⟨w.heap.size, 4, none⟩ = some (.int .i64 (s 4)) := HS.out.cell 4
        have kS5 : v6.cell? ⟨w.heap.size, 5, none⟩ = some (.int .i64 (s 5)) := HS.out.cell 5
        have kS6 : v6.cell? ⟨w.heap.size, 6, none⟩ = some (.int .i64 (s 6)) := HS.out.cell 6
        have kS7 : v6.cell? ⟨w.heap.size, 7, none⟩ = some (.int .i64 (s 7)) := HS.out.cell 7
        have kS8 : v6.cell? ⟨w.heap.size, 8, none⟩ = some (.slice SA sn sc) := HS.out.cell 8
        have kS9 : v6.cell? ⟨w.heap.size, 9, none⟩ = some (.int .i64 (s 9)) := HS.out.cell 9
        have kS10 : v6.cell? ⟨w.heap.size, 10, none⟩ = some (.int .i64 (s 10)) := HS.out.cell 10
        have kS11 : v6.cell? ⟨w.heap.size, 11, none⟩ = some (.int .i64 (s 11)) := HS.out.cell 11
        have kS12 : v6.cell? ⟨w.heap.size, 12, none⟩ = some (.int .i64 (s 12)) := HS.out.cell 12
        have kC0 : v6.cell? ⟨w.heap.size + 1, 0, none⟩ = some (.int .i64 p) := HC.out.cell 0
        have kC1 : v6.cell? ⟨w.heap.size + 1, 1, none⟩ = some (.int .i64 d) := HC.out.cell 1
        have kC2 : v6.cell? ⟨w.heap.size + 1, 2, none⟩ = some (.int .i64 1) := HC.out.cell 2
        have kC3 : v6.cell? ⟨w.heap.size + 1, 3, none⟩ = some (.int .i64 le) := HC.out.cell 3
        have kC4 : v6.cell? ⟨w.heap.size + 1, 4, none⟩ = some (.bool wa) := HC.out.cell 4
        have kC5 : v6.cell? ⟨w.heap.size + 1, 5, none⟩ = some (.slice A n c) := HC.out.cell 5
        have kL0 : v6.cell? ⟨w.heap.size + 1 + 1, 0, none⟩ = some (.int .u64 a0) := HL.out.cell 0
        have kL1 : v6.cell? ⟨w.heap.size + 1 + 1, 1, none⟩ = some (.int .u64 a1) := HL.out.cell 1
        have kL2 : v6.cell? ⟨w.heap.size + 1 + 1, 2, none⟩ = some (.int .u64 b0) := HL.out.cell 2
        have kL3 : v6.cell? ⟨w.heap.size + 1 + 1, 3, none⟩ = some (.int .u64 b1) := HL.out.cell 3
        have kX0 : v6.cell? ⟨gx, 0, none⟩ = some (.int .i64 (x + d)) := HX.out.cell 0
        have kX1 : v6.cell? ⟨gx, 1, none⟩ = some (.int .i64 d) := HX.out.cell 1
        have kX2 : v6.cell? ⟨gx, 2, none⟩ = some (.int .i64 1) := HX.out.cell 2
        have kX3 : v6.cell? ⟨gx, 3, none⟩ = some (.int .i64 le) := HX.out.cell 3
        have kX4 : v6.cell? ⟨gx, 4, none⟩ = some (.bool wa) := HX.out.cell 4
        have kX5 : v6.cell? ⟨gx, 5, none⟩ = some (.slice A n c) := HX.out.cell 5
        have lS := HS.out.lt
        have lC := HC.out.lt
        have lL := HL.out.lt
        have lX := HX.out.lt
        go_wp2_with fail
        clear kS0 kS1 kS2 kS3 kS4 kS5 kS6 kS7 kS8 kS9 kS10 kS11 kS12 kC0 kC1 kC2 kC3 kC4 kC5 kL0 kL1 kL2 kL3 kX0 kX1 kX2 kX3 kX4 kX5 lS lC lL lX
        have GS : Blk (v6.alloc (.cells #[.int .i64 (x + d), .int .i64 d, .int .i64 1, .int .i64 le, .bool wa, .slice B' n e'] 29)) (w.heap.size) 25 #[.int .i64 (s 0), .int .i64 (s 1), .int .i64 (s 2), .int .i64 (s 3), .int .i64 (s 4), .int .i64 (s 5), .int .i64 (s 6), .int .i64 (s 7), .slice SA sn sc, .int .i64 (s 9), .int .i64 (s 10), .int .i64 (s 11), .int .i64 (s 12)] := HS.out.alloc (.cells #[.int .i64 (x + d), .int .i64 d, .int .i64 1, .int .i64 le, .bool wa, .slice B' n e'] 29)
        have GC : Blk (v6.alloc (.cells #[.int .i64 (x + d), .int .i64 d, .int .i64 1, .int .i64 le, .bool wa, .slice B' n e'] 29)) (w.heap.size + 1) 29 #[.int .i64 p, .int .i64 d, .int .i64 1, .int .i64 le, .bool wa, .slice A n c] := HC.out.alloc (.cells #[.int .i64 (x + d), .int .i64 d, .int .i64 1, .int .i64 le, .bool wa, .slice B' n e'] 29)
        have GL : Blk (v6.alloc (.cells #[.int .i64 (x + d), .int .i64 d, .int .i64 1, .int .i64 le, .bool wa, .slice B' n e'] 29)) (w.heap.size + 1 + 1) 33 #[.int .u64 a0, .int .u64 a1, .int .u64 b0, .int .u64 b1] := HL.out.alloc (.cells #[.int .i64 (x + d), .int .i64 d, .int .i64 1, .int .i64 le, .bool wa, .slice B' n e'] 29)
        have GX : Blk (v6.alloc (.cells #[.int .i64 (x + d), .int .i64 d, .int .i64 1, .int .i64 le, .bool wa, .slice B' n e'] 29)) (gx) 29 #[.int .i64 (x + d), .int .i64 d, .int .i64 1, .int .i64 le, .bool wa, .slice A n c] := HX.out.alloc (.cells #[.int .i64 (x + d), .int .i64 d, .int .i64 1, .int .i64 le, .bool wa, .slice B' n e'] 29)
        have GY : Blk (v6.alloc (.cells #[.int .i64 (x + d), .int .i64 d, .int .i64 1, .int .i64 le, .bool wa, .slice B' n e'] 29)) (v6.heap.size) 29 #[.int .i64 (x + d), .int .i64 d, .int .i64 1, .int .i64 le, .bool wa, .slice B' n e'] := Blk.new v6 _ _
        have GE : Below w.heap.size w (v6.alloc (.cells #[.int .i64 (x + d), .int .i64 d, .int .i64 1, .int .i64 le, .bool wa, .slice B' n e'] 29)) := EE.out.alloc EE.out.size (.cells #[.int .i64 (x + d), .int .i64 d, .int .i64 1, .int .i64 le, .bool wa, .slice B' n e'] 29)
        have GHN : RdZ (v6.alloc (.cells #[.int .i64 (x + d), .int .i64 d, .int .i64 1, .int .i64 le, .bool wa, .slice B' n e'] 29)) 2 B' n z := RdZ.kept (w := v6) HN.out ((Below.refl _ _).alloc (Nat.le_refl _) (.cells #[.int .i64 (x + d), .int .i64 d, .int .i64 1, .int .i64 le, .bool wa, .slice B' n e'] 29))
        obtain ⟨gy, hgy⟩ : ∃ g, v6.heap.size = g := ⟨_, rfl⟩
        have ne4_0 : gy ≠ w.heap.size := by have := HS.out.lt; omega
        have ne0_4 : w.heap.size ≠ gy := by have := HS.out.lt; omega
        have ne4_1 : gy ≠ w.heap.size + 1 := by have := HC.out.lt; omega
        have ne1_4 : w.heap.size + 1 ≠ gy := by have := HC.out.lt; omega
        have ne4_2 : gy ≠ w.heap.size + 1 + 1 := by have := HL.out.lt; omega
        have ne2_4 : w.heap.size + 1 + 1 ≠ gy := by have := HL.out.lt; omega
        have ne4_3 : gy ≠ gx := by have := HX.out.lt; omega
        have ne3_4 : gx ≠ gy := by have := HX.out.lt; omega
        have gegy : w.heap.size ≤ gy := by have := EE.out.size; omega
        rw [hgy] at GY ⊢
        clear hgy
        obtain ⟨v7, hv7⟩ : ∃ V, (v6.alloc (.cells #[.int .i64 (x + d), .int .i64 d, .int .i64 1, .int .i64 le, .bool wa, .slice B' n e'] 29)) = V := ⟨_, rfl⟩
        rw [hv7] at GS GC GL GX GY GHN GE ⊢
        have HS := Lib.hid GS
        have HC := Lib.hid GC
        have HL := Lib.hid GL
        have HX := Lib.hid GX
        have HY := Lib.hid GY
        have HN := Lib.hid GHN
        have EE := Lib.hid GE
        clear hv7 GS GC GL GX GY GHN GE
        have kS0 : v7.cell? ⟨w.heap.size, 0, none⟩ = some (.int .i64 (s 0)) := HS.out.cell 0
        have kS1 : v7.cell? ⟨w.heap.size, 1, none⟩ = some (.int .i64 (s 1)) := HS.out.cell 1
        have kS2 : v7.cell? ⟨w.heap.size, 2, none⟩ = some (.int .i64 (s 2)) := HS.out.cell 2
        have kS3 : v7.cell? ⟨w.heap.size, 3, none⟩ = some (.int .i64 (s 3)) := HS.out.cell 3
        have kS4 : v7.cell? ⟨w.heap.size, 4, none⟩ = some (.int .i64 (s 4)) := HS.out.cell 4
        have kS5 : v7.cell? ⟨w.heap.size, 5, none⟩ = some (.int .i64 (s 5)) := HS.out.cell 5
        have kS6 : v7.cell? ⟨w.heap.size, 6, none⟩ = some (.int .i64 (s 6)) := HS.out.cell 6
        have kS7 : v7.cell? ⟨w.heap.size, 7, none⟩ = some (.int .i64 (s 7)) := HS.out.cell 7
        have kS8 : v7.cell? ⟨w.heap.size, 8, none⟩ = some (.slice SA sn sc) := HS.out.cell 8
        have kS9 : v7.cell? ⟨w.heap.size, 9, none⟩ = some (.int .i64 (s 9)) := HS.out.cell 9
        have kS10 : v7.cell? ⟨w.heap.size, 10, none⟩ = some (.int .i64 (s 10)) := HS.out.cell 10
        have kS11 : v7.cell? ⟨w.heap.size, 11, none⟩ = some (.int .i64 (s 11)) := HS.out.cell 11
        have kS12 : v7.cell? ⟨w.heap.size, 12, none⟩ = some (.int .i64 (s 12)) := HS.out.cell 12
        have kC0 : v7.cell? ⟨w.heap.size + 1, 0, none⟩ = some (.int .i64 p) := HC.out.cell 0
        have kC1 : v7.cell? ⟨w.heap.size + 1, 1, none⟩ = some (.int .i64 d) := HC.out.cell 1
        have kC2 : v7.cell? ⟨w.heap.size + 1, 2, none⟩ = some (.int .i64 1) := HC.out.cell 2
        have kC3 : v7.cell? ⟨w.heap.size + 1, 3, none⟩ = some (.int .i64 le) := HC.out.cell 3
        have kC4 : v7.cell? ⟨w.heap.size + 1, 4, none⟩ = some (.bool wa) := HC.out.cell 4
        have kC5 : v7.cell? ⟨w.heap.size + 1, 5, none⟩ = some (.slice A n c) := HC.out.cell 5
        have kL0 : v7.cell? ⟨w.heap.size + 1 + 1, 0, none⟩ = some (.int .u64 a0) := HL.out.cell 0
        have kL1 : v7.cell? ⟨w.heap.size + 1 + 1, 1, none⟩ = some (.int .u64 a1) := HL.out.cell 1
        have kL2 : v7.cell? ⟨w.heap.size + 1 + 1, 2, none⟩ = some (.int .u64 b0) := HL.out.cell 2
        have kL3 : v7.cell? ⟨w.heap.size + 1 + 1, 3, none⟩ = some (.int .u64 b1) := HL.out.cell 3
        have kX0 : v7.cell? ⟨gx, 0, none⟩ = some (.int .i64 (x + d)) := HX.out.cell 0
        have kX1 : v7.cell? ⟨gx, 1, none⟩ = some (.int .i64 d) := HX.out.cell 1
        have kX2 : v7.cell? ⟨gx, 2, none⟩ = some (.int .i64 1) := HX.out.cell 2
        have kX3 : v7.cell? ⟨gx, 3, none⟩ = some (.int .i64 le) := HX.out.cell 3
        have kX4 : v7.cell? ⟨gx, 4, none⟩ = some (.bool wa) := HX.out.cell 4
        have kX5 : v7.cell? ⟨gx, 5, none⟩ = some (.slice A n c) := HX.out.cell 5
        have kY0 : v7.cell? ⟨gy, 0, none⟩ = some (.int .i64 (x + d)) := HY.out.cell 0
        have kY1 : v7.cell? ⟨gy, 1, none⟩ = some (.int .i64 d) := HY.out.cell 1
        have kY2 : v7.cell? ⟨gy, 2, none⟩ = some (.int .i64 1) := HY.out.cell 2
        have kY3 : v7.cell? ⟨gy, 3, none⟩ = some (.int .i64 le) := HY.out.cell 3
        have kY4 : v7.cell? ⟨gy, 4, none⟩ = some (.bool wa) := HY.out.cell 4
        have kY5 : v7.cell? ⟨gy, 5, none⟩ = some (.slice B' n e') := HY.out.cell 5
        refine (QN.out _ (HRd.out.kept EE.out)).mono ?_
        rintro e v8 ⟨N9, F9, rfl, _, _, _, FA9, hb⟩
        have hN9 := FirstAt.same FA9 FS.out
        have hN9i : (N9 : Int) + 1 = (N : Int) - k := by omega
        rw [hN9i]
        clear FA9 hN9i
        clear kS0 kS1 kS2 kS3 kS4 kS5 kS6 kS7 kS8 kS9 kS10 kS11 kS12 kC0 kC1 kC2 kC3 kC4 kC5 kL0 kL1 kL2 kL3 kX0 kX1 kX2 kX3 kX4 kX5 kY0 kY1 kY2 kY3 kY4 kY5
        have HS := Lib.hid (Blk.next (w := v7) HS.out hb)
        have HC := Lib.hid (Blk.next (w := v7) HC.out hb)
        have HL := Lib.hid (Blk.next (w := v7) HL.out hb)
        have HX := Lib.hid (Blk.next (w := v7) HX.out hb)
        have HY := Lib.hid (Blk.next (w := v7) HY.out hb)
        have HN : Hid (RdZ v8 2 B' n z) := Lib.hid (RdZ.kept (w := v7) HN.out hb)
        have EE := Lib.hid (EE.out.trans (hb.mono EE.out.size))
        clear hb
        have kS0 : v8.cell? ⟨w.heap.size, 0, none⟩ = some (.int .i64 (s 0)) := HS.out.cell 0
        have kS1 : v8.cell? ⟨w.heap.size, 1, none⟩ = some (.int .i64 (s 1)) := HS.out.cell 1
        have kS2 : v8.cell? ⟨w.heap.size, 2, none⟩ = some (.int .i64 (s 2)) := HS.out.cell 2
        have kS3 : v8.cell? ⟨w.heap.size, 3, none⟩ = some (.int .i64 (s 3)) := HS.out.cell 3
        have kS4 : v8.cell? ⟨w.heap.size, 4, none⟩ = some (.int .i64 (s 4)) := HS.out.cell 4
        have kS5 : v8.cell? ⟨w.heap.size, 5, none⟩ = some (.int .i64 (s 5)) := HS.out.cell 5
        have kS6 : v8.cell? ⟨w.heap.size, 6, none⟩ = some (.int .i64 (s 6)) := HS.out.cell 6
        have kS7 : v8.cell? ⟨w.heap.size, 7, none⟩ = some (.int .i64 (s 7)) := HS.out.cell 7
        have kS8 : v8.cell? ⟨w.heap.size, 8, none⟩ = some (.slice SA sn sc) := HS.out.cell 8
        have kS9 : v8.cell? ⟨w.heap.size, 9, none⟩ = some (.int .i64 (s 9)) := HS.out.cell 9
        have kS10 : v8.cell? ⟨w.heap.size, 10, none⟩ = some (.int .i64 (s 10)) := HS.out.cell 10
        have kS11 : v8.cell? ⟨w.heap.size, 11, none⟩ = some (.int .i64 (s 11)) := HS.out.cell 11
        have kS12 : v8.cell? ⟨w.heap.size, 12, none⟩ = some (.int .i64 (s 12)) := HS.out.cell 12
        have kC0 : v8.cell? ⟨w.heap.size + 1, 0, none⟩ = some (.int .i64 p) := HC.out.cell 0
        have kC1 : v8.cell? ⟨w.heap.size + 1, 1, none⟩ = some (.int .i64 d) := HC.out.cell 1
        have kC2 : v8.cell? ⟨w.heap.size + 1, 2, none⟩ = some (.int .i64 1) := HC.out.cell 2
        have kC3 : v8.cell? ⟨w.heap.size + 1, 3, none⟩ = some (.int .i64 le) := HC.out.cell 3
        have kC4 : v8.cell? ⟨w.heap.size + 1, 4, none⟩ = some (.bool wa) := HC.out.cell 4
        have kC5 : v8.cell? ⟨w.heap.size + 1, 5, none⟩ = some (.slice A n c) := HC.out.cell 5
        have kL0 : v8.cell? ⟨w.heap.size + 1 + 1, 0, none⟩ = some (.int .u64 a0) := HL.out.cell 0
        have kL1 : v8.cell? ⟨w.heap.size + 1 + 1, 1, none⟩ = some (.int .u64 a1) := HL.out.cell 1
        have kL2 : v8.cell? ⟨w.heap.size + 1 + 1, 2, none⟩ = some (.int .u64 b0) := HL.out.cell 2
        have kL3 : v8.cell? ⟨w.heap.size + 1 + 1, 3, none⟩ = some (.int .u64 b1) := HL.out.cell 3
        have kX0 : v8.cell? ⟨gx, 0, none⟩ = some (.int .i64 (x + d)) := HX.out.cell 0
        have kX1 : v8.cell? ⟨gx, 1, none⟩ = some (.int .i64 d) := HX.out.cell 1
        have kX2 : v8.cell? ⟨gx, 2, none⟩ = some (.int .i64 1) := HX.out.cell 2
        have kX3 : v8.cell? ⟨gx, 3, none⟩ = some (.int .i64 le) := HX.out.cell 3
        have kX4 : v8.cell? ⟨gx, 4, none⟩ = some (.bool wa) := HX.out.cell 4
        have kX5 : v8.cell? ⟨gx, 5, none⟩ = some (.slice A n c) := HX.out.cell 5
        have kY0 : v8.cell? ⟨gy, 0, none⟩ = some (.int .i64 (x + d)) := HY.out.cell 0
        have kY1 : v8.cell? ⟨gy, 1, none⟩ = some (.int .i64 d) := HY.out.cell 1
        have kY2 : v8.cell? ⟨gy, 2, none⟩ = some (.int .i64 1) := HY.out.cell 2
        have kY3 : v8.cell? ⟨gy, 3, none⟩ = some (.int .i64 le) := HY.out.cell 3
        have kY4 : v8.cell? ⟨gy, 4, none⟩ = some (.bool wa) := HY.out.cell 4
        have kY5 : v8.cell? ⟨gy, 5, none⟩ = some (.slice B' n e') := HY.out.cell 5
        go_wp2_with fail
        have sK : ∀ X, Blk X (w.heap.size + 1) 29 #[.int .i64 p, .int .i64 d, .int .i64 1, .int .i64 le, .bool wa, .slice A n c] → Blk X (gx) 29 #[.int .i64 (x + d), .int .i64 d, .int .i64 1, .int .i64 le, .bool wa, .slice A n c] → Blk X (gy) 29 #[.int .i64 (x + d), .int .i64 d, .int .i64 1, .int .i64 le, .bool wa, .slice B' n e'] → (fun X => X.cell? ⟨w.heap.size + 1, 0, none⟩ = some (.int .i64 p) ∧ X.cell? ⟨w.heap.size + 1, 1, none⟩ = some (.int .i64 d) ∧ X.cell? ⟨w.heap.size + 1, 2, none⟩ = some (.int .i64 1) ∧ X.cell? ⟨w.heap.size + 1, 3, none⟩ = some (.int .i64 le) ∧ X.cell? ⟨w.heap.size + 1, 4, none⟩ = some (.bool wa) ∧ X.cell? ⟨w.heap.size + 1, 5, none⟩ = some (.slice A n c) ∧ X.cell? ⟨gx, 0, none⟩ = some (.int .i64 (x + d)) ∧ X.cell? ⟨gx, 1, none⟩ = some (.int .i64 d) ∧ X.cell? ⟨gx, 2, none⟩ = some (.int .i64 1) ∧ X.cell? ⟨gx, 3, none⟩ = some (.int .i64 le) ∧ X.cell? ⟨gx, 4, none⟩ = some (.bool wa) ∧ X.cell? ⟨gx, 5, none⟩ = some (.slice A n c) ∧ X.cell? ⟨gy, 0, none⟩ = some (.int .i64 (x + d)) ∧ X.cell? ⟨gy, 1, none⟩ = some (.int .i64 d) ∧ X.cell? ⟨gy, 2, none⟩ = some (.int .i64 1) ∧ X.cell? ⟨gy, 3, none⟩ = some (.int .i64 le) ∧ X.cell? ⟨gy, 4, none⟩ = some (.bool wa) ∧ X.cell? ⟨gy, 5, none⟩ = some (.slice B' n e')) X := fun X hC hX hY => ⟨hC.cell 0, hC.cell 1, hC.cell 2, hC.cell 3, hC.cell 4, hC.cell 5, hX.cell 0, hX.cell 1, hX.cell 2, hX.cell 3, hX.cell 4, hX.cell 5, hY.cell 0, hY.cell 1, hY.cell 2, hY.cell 3, hY.cell 4, hY.cell 5⟩
        have LS0 := Lib.hid (HS.out.drew)
        have LC0 := Lib.hid (HC.out.drew)
        have LL0 := Lib.hid (HL.out.drew)
        have LX0 := Lib.hid (HX.out.drew)
        have LY0 := Lib.hid (HY.out.drew)
        have E0 := Lib.hid (EE.out.drew)
        clear kS0 kS1 kS2 kS3 kS4 kS5 kS6 kS7 kS8 kS9 kS10 kS11 kS12 kC0 kC1 kC2 kC3 kC4 kC5 kL0 kL1 kL2 kL3 kX0 kX1 kX2 kX3 kX4 kX5 kY0 kY1 kY2 kY3 kY4 kY5
        refine wp_region_held_drew (S := (fun X => X.cell? ⟨w.heap.size + 1, 0, none⟩ = some (.int .i64 p) ∧ X.cell? ⟨w.heap.size + 1, 1, none⟩ = some (.int .i64 d) ∧ X.cell? ⟨w.heap.size + 1, 2, none⟩ = some (.int .i64 1) ∧ X.cell? ⟨w.heap.size + 1, 3, none⟩ = some (.int .i64 le) ∧ X.cell? ⟨w.heap.size + 1, 4, none⟩ = some (.bool wa) ∧ X.cell? ⟨w.heap.size + 1, 5, none⟩ = some (.slice A n c) ∧ X.cell? ⟨gx, 0, none⟩ = some (.int .i64 (x + d)) ∧ X.cell? ⟨gx, 1, none⟩ = some (.int .i64 d) ∧ X.cell? ⟨gx, 2, none⟩ = some (.int .i64 1) ∧ X.cell? ⟨gx, 3, none⟩ = some (.int .i64 le) ∧ X.cell? ⟨gx, 4, none⟩ = some (.bool wa) ∧ X.cell? ⟨gx, 5, none⟩ = some (.slice A n c) ∧ X.cell? ⟨gy, 0, none⟩ = some (.int .i64 (x + d)) ∧ X.cell? ⟨gy, 1, none⟩ = some (.int .i64 d) ∧ X.cell? ⟨gy, 2, none⟩ = some (.int .i64 1) ∧ X.cell? ⟨gy, 3, none⟩ = some (.int .i64 le) ∧ X.cell? ⟨gy, 4, none⟩ = some (.bool wa) ∧ X.cell? ⟨gy, 5, none⟩ = some (.slice B' n e'))) (by kernel_rfl) (sK _ LC0.out LX0.out LY0.out) (fun hHeld => ?_)
        clear hHeld
        refine wpAnyH_take (i := 0) (v := ?_) rfl (by kernel_rfl) (by kernel_rfl) (by kernel_rfl) (fun _ _ _ h => h) (Or.inl ⟨by rfl, ?_⟩) (sK _ LC0.out LX0.out LY0.out) ?_
        rotate_left
        · (intro wS hSw; (try dsimp only at hSw); go_simp; try with_reducible rfl)
        simp only [Act.put, List.getElem_toArray, List.getElem_cons_zero, List.getElem_cons_succ, List.setIfInBounds_toArray, List.set_cons_zero, List.set_cons_succ]
        refine wpAnyH_take (i := 1) (v := ?_) rfl (by kernel_rfl) (by kernel_rfl) (by kernel_rfl) (fun _ _ _ h => h) (Or.inl ⟨by rfl, ?_⟩) (sK _ LC0.out LX0.out LY0.out) ?_
        rotate_left
        · (intro wS hSw; (try dsimp only at hSw); go_simp; try with_reducible rfl)
        simp only [Act.put, List.getElem_toArray, List.getElem_cons_zero, List.getElem_cons_succ, List.setIfInBounds_toArray, List.set_cons_zero, List.set_cons_succ]
        refine wpAnyH_ready (rs := [2]) (by kernel_rfl) (by simp) ?_
        refine AllReadyH.cons rfl (fun K hK => ?_) AllReadyH.nil
        go_simp
        refine (RC.out (x + d) _ _ _ _ _ (rdZ_drew HN.out) (HRd.out.kept E0.out) (by omega)).mono ?_
        rintro e r1 ⟨rfl, hb⟩
        have LS1 := Lib.hid (LS0.out.next hb)
        have LC1 := Lib.hid (LC0.out.next hb)
        have LL1 := Lib.hid (LL0.out.next hb)
        have LX1 := Lib.hid (LX0.out.next hb)
        have LY1 := Lib.hid (LY0.out.next hb)
        have E1 := Lib.hid (E0.out.trans (hb.mono E0.out.size))
        clear hb
        go_wp2_with fail
        refine hK.out _ _ (sK _ LC1.out LX1.out LY1.out) (fun hHeld => ?_)
        clear hK K hHeld
        try simp only [Act.put, List.getElem_toArray, List.getElem_cons_zero, List.getElem_cons_succ, List.setIfInBounds_toArray, List.set_cons_zero, List.set_cons_succ]
        refine wpAnyH_take (i := 3) (v := ?_) rfl (by kernel_rfl) (by kernel_rfl) (by kernel_rfl) (fun _ _ _ h => h) (Or.inl ⟨by rfl, ?_⟩) (sK _ LC1.out LX1.out LY1.out) ?_
        rotate_left
        · (intro wS hSw; (try dsimp only at hSw); go_simp; try with_reducible rfl)
        simp only [Act.put, List.getElem_toArray, List.getElem_cons_zero, List.getElem_cons_succ, List.setIfInBounds_toArray, List.set_cons_zero, List.set_cons_succ]
        refine wpAnyH_take (i := 4) (v := ?_) rfl (by kernel_rfl) (by kernel_rfl) (by kernel_rfl) (fun _ _ _ h => h) (Or.inl ⟨by rfl, ?_⟩) (sK _ LC1.out LX1.out LY1.out) ?_
        rotate_left
        · (intro wS hSw; (try dsimp only at hSw); go_simp; try with_reducible rfl)
        simp only [Act.put, List.getElem_toArray, List.getElem_cons_zero, List.getElem_cons_succ, List.setIfInBounds_toArray, List.set_cons_zero, List.set_cons_succ]
        refine wpAnyH_take (i := 5) (v := ?_) rfl (by kernel_rfl) (by kernel_rfl) (by kernel_rfl) (fun _ _ _ h => h) (Or.inl ⟨by rfl, ?_⟩) (sK _ LC1.out LX1.out LY1.out) ?_
        rotate_left
        · (intro wS hSw; (try dsimp only at hSw); go_simp; try with_reducible rfl)
        simp only [Act.put, List.getElem_toArray, List.getElem_cons_zero, List.getElem_cons_succ, List.setIfInBounds_toArray, List.set_cons_zero, List.set_cons_succ]
        refine wpAnyH_take (i := 6) (v := ?_) rfl (by kernel_rfl) (by kernel_rfl) (by kernel_rfl) (fun _ _ _ h => h) (Or.inl ⟨by rfl, ?_⟩) (sK _ LC1.out LX1.out LY1.out) ?_
        rotate_left
        · (intro wS hSw; (try dsimp only at hSw); go_simp; try with_reducible rfl)
        simp only [Act.put, List.getElem_toArray, List.getElem_cons_zero, List.getElem_cons_succ, List.setIfInBounds_toArray, List.set_cons_zero, List.set_cons_succ]
        refine wpAnyH_take (i := 7) (v := ?_) rfl (by kernel_rfl) (by kernel_rfl) (by kernel_rfl) (fun _ _ _ h => h) (Or.inl ⟨by rfl, ?_⟩) (sK _ LC1.out LX1.out LY1.out) ?_
        rotate_left
        · (intro wS hSw; (try dsimp only at hSw); go_simp; try with_reducible rfl)
        simp only [Act.put, List.getElem_toArray, List.getElem_cons_zero, List.getElem_cons_succ, List.setIfInBounds_toArray, List.set_cons_zero, List.set_cons_succ]
        refine wpAnyH_take (i := 9) (v := ?_) rfl (by kernel_rfl) (by kernel_rfl) (by kernel_rfl) (fun _ _ _ h => h) (Or.inl ⟨by rfl, ?_⟩) (sK _ LC1.out LX1.out LY1.out) ?_
        rotate_left
        · (intro wS hSw; (try dsimp only at hSw); go_simp; try with_reducible rfl)
        simp only [Act.put, List.getElem_toArray, List.getElem_cons_zero, List.getElem_cons_succ, List.setIfInBounds_toArray, List.set_cons_zero, List.set_cons_succ]
        refine wpAnyH_take (i := 10) (v := ?_) rfl (by kernel_rfl) (by kernel_rfl) (by kernel_rfl) (fun _ _ _ h => h) (Or.inl ⟨by rfl, ?_⟩) (sK _ LC1.out LX1.out LY1.out) ?_
        rotate_left
        · (intro wS hSw; (try dsimp only at hSw); go_simp; try with_reducible rfl)
        simp only [Act.put, List.getElem_toArray, List.getElem_cons_zero, List.getElem_cons_succ, List.setIfInBounds_toArray, List.set_cons_zero, List.set_cons_succ]
        refine wpAnyH_take (i := 11) (v := ?_) rfl (by kernel_rfl) (by kernel_rfl) (by kernel_rfl) (fun _ _ _ h => h) (Or.inl ⟨by rfl, ?_⟩) (sK _ LC1.out LX1.out LY1.out) ?_
        rotate_left
        · (intro wS hSw; (try dsimp only at hSw); go_simp; try with_reducible rfl)
        simp only [Act.put, List.getElem_toArray, List.getElem_cons_zero, List.getElem_cons_succ, List.setIfInBounds_toArray, List.set_cons_zero, List.set_cons_succ]
        refine wpAnyH_take (i := 12) (v := ?_) rfl (by kernel_rfl) (by kernel_rfl) (by kernel_rfl) (fun _ _ _ h => h) (Or.inl ⟨by rfl, ?_⟩) (sK _ LC1.out LX1.out LY1.out) ?_
        rotate_left
        · (intro wS hSw; (try dsimp only at hSw); go_simp; try with_reducible rfl)
        simp only [Act.put, List.getElem_toArray, List.getElem_cons_zero, List.getElem_cons_succ, List.setIfInBounds_toArray, List.set_cons_zero, List.set_cons_succ]
        refine wpAnyH_take (i := 14) (v := ?_) rfl (by kernel_rfl) (by kernel_rfl) (by kernel_rfl) (fun _ _ _ h => h) (Or.inl ⟨by rfl, ?_⟩) (sK _ LC1.out LX1.out LY1.out) ?_
        rotate_left
        · (intro wS hSw; (try dsimp only at hSw); go_simp; try with_reducible rfl)
        simp only [Act.put, List.getElem_toArray, List.getElem_cons_zero, List.getElem_cons_succ, List.setIfInBounds_toArray, List.set_cons_zero, List.set_cons_succ]
        refine wpAnyH_ready (rs := [8]) (by kernel_rfl) (by simp) ?_
        refine AllReadyH.cons rfl (fun K hK => ?_) AllReadyH.nil
        go_simp
        refine (A2.out _ (HRd.out.kept E1.out)).mono ?_
        rintro e r2 ⟨B2, e2, rfl, hR', _, hb⟩
        have LS2 := Lib.hid (LS1.out.next hb)
        have LC2 := Lib.hid (LC1.out.next hb)
        have LL2 := Lib.hid (LL1.out.next hb)
        have LX2 := Lib.hid (LX1.out.next hb)
        have LY2 := Lib.hid (LY1.out.next hb)
        have E2 := Lib.hid (E1.out.trans (hb.mono E1.out.size))
        have HN2 := Lib.hid hR'
        clear hR'
        clear hb
        go_wp2_with fail
        refine hK.out _ _ (sK _ LC2.out LX2.out LY2.out) (fun hHeld => ?_)
        clear hK K hHeld
        try simp only [Act.put, List.getElem_toArray, List.getElem_cons_zero, List.getElem_cons_succ, List.setIfInBounds_toArray, List.set_cons_zero, List.set_cons_succ]
        refine wpAnyH_ready (rs := [13]) (by kernel_rfl) (by simp) ?_
        refine AllReadyH.cons rfl (fun K hK => ?_) AllReadyH.nil
        go_simp
        refine (A3.out _ _ _ HN2.out).mono ?_
        rintro e r3 ⟨B3, e3, rfl, hR', _, hb⟩
        have LS3 := Lib.hid (LS2.out.next hb)
        have LC3 := Lib.hid (LC2.out.next hb)
        have LL3 := Lib.hid (LL2.out.next hb)
        have LX3 := Lib.hid (LX2.out.next hb)
        have LY3 := Lib.hid (LY2.out.next hb)
        have E3 := Lib.hid (E2.out.trans (hb.mono E2.out.size))
        have HN3 := Lib.hid hR'
        clear hR'
        clear hb
        go_wp2_with fail
        refine hK.out _ _ (sK _ LC3.out LX3.out LY3.out) (fun hHeld => ?_)
        clear hK K hHeld
        try simp only [Act.put, List.getElem_toArray, List.getElem_cons_zero, List.getElem_cons_succ, List.setIfInBounds_toArray, List.set_cons_zero, List.set_cons_succ]
        refine wpAnyH_ready (rs := [15]) (by kernel_rfl) (by simp) ?_
        refine AllReadyH.cons rfl (fun K hK => ?_) AllReadyH.nil
        go_simp
        refine (RC.out (x + d) _ _ _ _ _ HN3.out (HRd.out.kept E3.out) (by omega)).mono ?_
        rintro e r4 ⟨rfl, hb⟩
        have LS4 := Lib.hid (LS3.out.next hb)
        have LC4 := Lib.hid (LC3.out.next hb)
        have LL4 := Lib.hid (LL3.out.next hb)
        have LX4 := Lib.hid (LX3.out.next hb)
        have LY4 := Lib.hid (LY3.out.next hb)
        have E4 := Lib.hid (E3.out.trans (hb.mono E3.out.size))
        clear hb
        go_wp2_with fail
        refine hK.out _ _ (sK _ LC4.out LX4.out LY4.out) (fun hHeld => ?_)
        clear hK K hHeld
        try simp only [Act.put, List.getElem_toArray, List.getElem_cons_zero, List.getElem_cons_succ, List.setIfInBounds_toArray, List.set_cons_zero, List.set_cons_succ]
        refine wpAnyH_take (i := 16) (v := ?_) rfl (by kernel_rfl) (by kernel_rfl) (by kernel_rfl) (fun _ _ _ h => h) (Or.inl ⟨by rfl, ?_⟩) (sK _ LC4.out LX4.out LY4.out) ?_
        rotate_left
        · (intro wS hSw; (try dsimp only at hSw); go_simp; try with_reducible rfl)
        simp only [Act.put, List.getElem_toArray, List.getElem_cons_zero, List.getElem_cons_succ, List.setIfInBounds_toArray, List.set_cons_zero, List.set_cons_succ]
        refine wpAnyH_take (i := 17) (v := ?_) rfl (by kernel_rfl) (by kernel_rfl) (by kernel_rfl) (fun _ _ _ h => h) (Or.inl ⟨by rfl, ?_⟩) (sK _ LC4.out LX4.out LY4.out) ?_
        rotate_left
        · (intro wS hSw; (try dsimp only at hSw); go_simp; try with_reducible rfl)
        simp only [Act.put, List.getElem_toArray, List.getElem_cons_zero, List.getElem_cons_succ, List.setIfInBounds_toArray, List.set_cons_zero, List.set_cons_succ]
        refine wpAnyH_take (i := 18) (v := ?_) rfl (by kernel_rfl) (by kernel_rfl) (by kernel_rfl) (fun _ _ _ h => h) (Or.inl ⟨by rfl, ?_⟩) (sK _ LC4.out LX4.out LY4.out) ?_
        rotate_left
        · (intro wS hSw; (try dsimp only at hSw); go_simp; try with_reducible rfl)
        simp only [Act.put, List.getElem_toArray, List.getElem_cons_zero, List.getElem_cons_succ, List.setIfInBounds_toArray, List.set_cons_zero, List.set_cons_succ]
        refine wpAnyH_take (i := 19) (v := ?_) rfl (by kernel_rfl) (by kernel_rfl) (by kernel_rfl) (fun _ _ _ h => h) (Or.inl ⟨by rfl, ?_⟩) (sK _ LC4.out LX4.out LY4.out) ?_
        rotate_left
        · (intro wS hSw; (try dsimp only at hSw); go_simp; try with_reducible rfl)
        simp only [Act.put, List.getElem_toArray, List.getElem_cons_zero, List.getElem_cons_succ, List.setIfInBounds_toArray, List.set_cons_zero, List.set_cons_succ]
        refine wpAnyH_take (i := 20) (v := ?_) rfl (by kernel_rfl) (by kernel_rfl) (by kernel_rfl) (fun _ _ _ h => h) (Or.inl ⟨by rfl, ?_⟩) (sK _ LC4.out LX4.out LY4.out) ?_
        rotate_left
        · (intro wS hSw; (try dsimp only at hSw); go_simp; try with_reducible rfl)
        simp only [Act.put, List.getElem_toArray, List.getElem_cons_zero, List.getElem_cons_succ, List.setIfInBounds_toArray, List.set_cons_zero, List.set_cons_succ]
        refine wpAnyH_take (i := 21) (v := ?_) rfl (by kernel_rfl) (by kernel_rfl) (by kernel_rfl) (fun _ _ _ h => h) (Or.inl ⟨by rfl, ?_⟩) (sK _ LC4.out LX4.out LY4.out) ?_
        rotate_left
        · (intro wS hSw; (try dsimp only at hSw); go_simp; try with_reducible rfl)
        simp only [Act.put, List.getElem_toArray, List.getElem_cons_zero, List.getElem_cons_succ, List.setIfInBounds_toArray, List.set_cons_zero, List.set_cons_succ]
        refine wpAnyH_take (i := 22) (v := ?_) rfl (by kernel_rfl) (by kernel_rfl) (by kernel_rfl) (fun _ _ _ h => h) (Or.inl ⟨by rfl, ?_⟩) (sK _ LC4.out LX4.out LY4.out) ?_
        rotate_left
        · (intro wS hSw; (try dsimp only at hSw); go_simp; try with_reducible rfl)
        simp only [Act.put, List.getElem_toArray, List.getElem_cons_zero, List.getElem_cons_succ, List.setIfInBounds_toArray, List.set_cons_zero, List.set_cons_succ]
        refine wpAnyH_take (i := 23) (v := ?_) rfl (by kernel_rfl) (by kernel_rfl) (by kernel_rfl) (fun _ _ _ h => h) (Or.inl ⟨by rfl, ?_⟩) (sK _ LC4.out LX4.out LY4.out) ?_
        rotate_left
        · (intro wS hSw; (try dsimp only at hSw); go_simp; try with_reducible rfl)
        simp only [Act.put, List.getElem_toArray, List.getElem_cons_zero, List.getElem_cons_succ, List.setIfInBounds_toArray, List.set_cons_zero, List.set_cons_succ]
        refine wpAnyH_take (i := 24) (v := ?_) rfl (by kernel_rfl) (by kernel_rfl) (by kernel_rfl) (fun _ _ _ h => h) (Or.inl ⟨by rfl, ?_⟩) (sK _ LC4.out LX4.out LY4.out) ?_
        rotate_left
        · (intro wS hSw; (try dsimp only at hSw); go_simp; try with_reducible rfl)
        simp only [Act.put, List.getElem_toArray, List.getElem_cons_zero, List.getElem_cons_succ, List.setIfInBounds_toArray, List.set_cons_zero, List.set_cons_succ]
        refine wpAnyH_take (i := 25) (v := ?_) rfl (by kernel_rfl) (by kernel_rfl) (by kernel_rfl) (fun _ _ _ h => h) (Or.inl ⟨by rfl, ?_⟩) (sK _ LC4.out LX4.out LY4.out) ?_
        rotate_left
        · (intro wS hSw; (try dsimp only at hSw); go_simp; try with_reducible rfl)
        simp only [Act.put, List.getElem_toArray, List.getElem_cons_zero, List.getElem_cons_succ, List.setIfInBounds_toArray, List.set_cons_zero, List.set_cons_succ]
        refine wpAnyH_take (i := 26) (v := ?_) rfl (by kernel_rfl) (by kernel_rfl) (by kernel_rfl) (fun _ _ _ h => h) (Or.inl ⟨by rfl, ?_⟩) (sK _ LC4.out LX4.out LY4.out) ?_
        rotate_left
        · (intro wS hSw; (try dsimp only at hSw); go_simp; try with_reducible rfl)
        simp only [Act.put, List.getElem_toArray, List.getElem_cons_zero, List.getElem_cons_succ, List.setIfInBounds_toArray, List.set_cons_zero, List.set_cons_succ]
        refine wpAnyH_take (i := 27) (v := ?_) rfl (by kernel_rfl) (by kernel_rfl) (by kernel_rfl) (fun _ _ _ h => h) (Or.inl ⟨by rfl, ?_⟩) (sK _ LC4.out LX4.out LY4.out) ?_
        rotate_left
        · (intro wS hSw; (try dsimp only at hSw); go_simp; try with_reducible rfl)
        simp only [Act.put, List.getElem_toArray, List.getElem_cons_zero, List.getElem_cons_succ, List.setIfInBounds_toArray, List.set_cons_zero, List.set_cons_succ]
        refine wpAnyH_take (i := 28) (v := ?_) rfl (by kernel_rfl) (by kernel_rfl) (by kernel_rfl) (fun _ _ _ h => h) (Or.inl ⟨by rfl, ?_⟩) (sK _ LC4.out LX4.out LY4.out) ?_
        rotate_left
        · (intro wS hSw; (try dsimp only at hSw); go_simp; try with_reducible rfl)
        simp only [Act.put, List.getElem_toArray, List.getElem_cons_zero, List.getElem_cons_succ, List.setIfInBounds_toArray, List.set_cons_zero, List.set_cons_succ]
        refine wpAnyH_done (by kernel_rfl) ?_ _
        go_wp2_with fail
        go_roundw
        case rel => exact ⟨k + 1, x + d, by omega, by go_num, HY1, LS4, LC4, LL4, LX4, E4.out⟩
        case measure => simp [intOf]; omega
      · have hkN : k = N := by omega
        have hyes : StopAt (s 1) PF x := by rw [HY.out, hkN]; exact FAh.out.here
        obtain ⟨hr0, hng⟩ := NGh.out x q r r0 r1 ex hyes
        have OFFh := Lib.hid (stp_off (p := x) (le := le) (op := s 4) hr0 hng)
        obtain ⟨c0, hc0⟩ : ∃ v, stp r (SF q) (OF q) x d 1 le (s 4) 0 = v := ⟨_, rfl⟩
        obtain ⟨c1, hc1⟩ : ∃ v, stp r (SF q) (OF q) x d 1 le (s 4) 1 = v := ⟨_, rfl⟩
        obtain ⟨c2, hc2⟩ : ∃ v, stp r (SF q) (OF q) x d 1 le (s 4) 2 = v := ⟨_, rfl⟩
        obtain ⟨c3, hc3⟩ : ∃ v, stp r (SF q) (OF q) x d 1 le (s 4) 3 = v := ⟨_, rfl⟩
        rw [hc1, hc2] at OFFh
        simp only [hc0, hc1, hc2, hc3] at RSk
        replace RSk := Lib.hid RSk
        clear hc0 hc1 hc2 hc3 ex hr0 hng hyes r0 r1
        subst hkN
        have hnlt : ¬ ((k : Int) + 1 < (k : Int) + 1) := by omega
        go_wp2_with fail
        refine (RSk.out _ (HRd.out.kept EE.out)).mono ?_
        rintro e v4 ⟨rfl, hb⟩
        clear kS0 kS1 kS2 kS3 kS4 kS5 kS6 kS7 kS8 kS9 kS10 kS11 kS12 kC0 kC1 kC2 kC3 kC4 kC5 kL0 kL1 kL2 kL3 kX0 kX1 kX2 kX3 kX4 kX5
        have HS := Lib.hid (Blk.next (w := wr) HS.out hb)
        have HC := Lib.hid (Blk.next (w := wr) HC.out hb)
        have HL := Lib.hid (Blk.next (w := wr) HL.out hb)
        have HX := Lib.hid (Blk.next (w := wr) HX.out hb)
        have EE := Lib.hid (EE.out.trans (hb.mono EE.out.size))
        clear hb
        have kS0 : v4.cell? ⟨w.heap.size, 0, none⟩ = some (.int .i64 (s 0)) := HS.out.cell 0
        have kS1 : v4.cell? ⟨w.heap.size, 1, none⟩ = some (.int .i64 (s 1)) := HS.out.cell 1
        have kS2 : v4.cell? ⟨w.heap.size, 2, none⟩ = some (.int .i64 (s 2)) := HS.out.cell 2
        have kS3 : v4.cell? ⟨w.heap.size, 3, none⟩ = some (.int .i64 (s 3)) := HS.out.cell 3
        have kS4 : v4.cell? ⟨w.heap.size, 4, none⟩ = some (.int .i64 (s 4)) := HS.out.cell 4
        have kS5 : v4.cell? ⟨w.heap.size, 5, none⟩ = some (.int .i64 (s 5)) := HS.out.cell 5
        have kS6 : v4.cell? ⟨w.heap.size, 6, none⟩ = some (.int .i64 (s 6)) := HS.out.cell 6
        have kS7 : v4.cell? ⟨w.heap.size, 7, none⟩ = some (.int .i64 (s 7)) := HS.out.cell 7
        have kS8 : v4.cell? ⟨w.heap.size, 8, none⟩ = some (.slice SA sn sc) := HS.out.cell 8
        have kS9 : v4.cell? ⟨w.heap.size, 9, none⟩ = some (.int .i64 (s 9)) := HS.out.cell 9
        have kS10 : v4.cell? ⟨w.heap.size, 10, none⟩ = some (.int .i64 (s 10)) := HS.out.cell 10
        have kS11 : v4.cell? ⟨w.heap.size, 11, none⟩ = some (.int .i64 (s 11)) := HS.out.cell 11
        have kS12 : v4.cell? ⟨w.heap.size, 12, none⟩ = some (.int .i64 (s 12)) := HS.out.cell 12
        have kC0 : v4.cell? ⟨w.heap.size + 1, 0, none⟩ = some (.int .i64 p) := HC.out.cell 0
        have kC1 : v4.cell? ⟨w.heap.size + 1, 1, none⟩ = some (.int .i64 d) := HC.out.cell 1
        have kC2 : v4.cell? ⟨w.heap.size + 1, 2, none⟩ = some (.int .i64 1) := HC.out.cell 2
        have kC3 : v4.cell? ⟨w.heap.size + 1, 3, none⟩ = some (.int .i64 le) := HC.out.cell 3
        have kC4 : v4.cell? ⟨w.heap.size + 1, 4, none⟩ = some (.bool wa) := HC.out.cell 4
        have kC5 : v4.cell? ⟨w.heap.size + 1, 5, none⟩ = some (.slice A n c) := HC.out.cell 5
        have kL0 : v4.cell? ⟨w.heap.size + 1 + 1, 0, none⟩ = some (.int .u64 a0) := HL.out.cell 0
        have kL1 : v4.cell? ⟨w.heap.size + 1 + 1, 1, none⟩ = some (.int .u64 a1) := HL.out.cell 1
        have kL2 : v4.cell? ⟨w.heap.size + 1 + 1, 2, none⟩ = some (.int .u64 b0) := HL.out.cell 2
        have kL3 : v4.cell? ⟨w.heap.size + 1 + 1, 3, none⟩ = some (.int .u64 b1) := HL.out.cell 3
        have kX0 : v4.cell? ⟨gx, 0, none⟩ = some (.int .i64 x) := HX.out.cell 0
        have kX1 : v4.cell? ⟨gx, 1, none⟩ = some (.int .i64 d) := HX.out.cell 1
        have kX2 : v4.cell? ⟨gx, 2, none⟩ = some (.int .i64 1) := HX.out.cell 2
        have kX3 : v4.cell? ⟨gx, 3, none⟩ = some (.int .i64 le) := HX.out.cell 3
        have kX4 : v4.cell? ⟨gx, 4, none⟩ = some (.bool wa) := HX.out.cell 4
        have kX5 : v4.cell? ⟨gx, 5, none⟩ = some (.slice A n c) := HX.out.cell 5
        have lS := HS.out.lt
        have lC := HC.out.lt
        have lL := HL.out.lt
        have lX := HX.out.lt
        rcases OFFh.out with hm | ⟨rfl, hm⟩
        · have hmb : (c2 != 1) = true := by rw [bne_iff_ne]; exact hm
          clear hm OFFh RSk
          go_wp2_with fail
          clear kS0 kS1 kS2 kS3 kS4 kS5 kS6 kS7 kS8 kS9 kS10 kS11 kS12 kC0 kC1 kC2 kC3 kC4 kC5 kL0 kL1 kL2 kL3 kX0 kX1 kX2 kX3 kX4 kX5 lS lC lL lX
          have GS : Blk (v4.alloc (.cells #[.int .i64 c0, .int .i64 c1, .int .i64 c2, .int .i64 c3, .bool wa, .slice A n c] 29)) (w.heap.size) 25 #[.int .i64 (s 0), .int .i64 (s 1), .int .i64 (s 2), .int .i64 (s 3), .int .i64 (s 4), .int .i64 (s 5), .int .i64 (s 6), .int .i64 (s 7), .slice SA sn sc, .int .i64 (s 9), .int .i64 (s 10), .int .i64 (s 11), .int .i64 (s 12)] := HS.out.alloc (.cells #[.int .i64 c0, .int .i64 c1, .int .i64 c2, .int .i64 c3, .bool wa, .slice A n c] 29)
          have GC : Blk (v4.alloc (.cells #[.int .i64 c0, .int .i64 c1, .int .i64 c2, .int .i64 c3, .bool wa, .slice A n c] 29)) (w.heap.size + 1) 29 #[.int .i64 p, .int .i64 d, .int .i64 1, .int .i64 le, .bool wa, .slice A n c] := HC.out.alloc (.cells #[.int .i64 c0, .int .i64 c1, .int .i64 c2, .int .i64 c3, .bool wa, .slice A n c] 29)
          have GL : Blk (v4.alloc (.cells #[.int .i64 c0, .int .i64 c1, .int .i64 c2, .int .i64 c3, .bool wa, .slice A n c] 29)) (w.heap.size + 1 + 1) 33 #[.int .u64 a0, .int .u64 a1, .int .u64 b0, .int .u64 b1] := HL.out.alloc (.cells #[.int .i64 c0, .int .i64 c1, .int .i64 c2, .int .i64 c3, .bool wa, .slice A n c] 29)
          have GX : Blk (v4.alloc (.cells #[.int .i64 c0, .int .i64 c1, .int .i64 c2, .int .i64 c3, .bool wa, .slice A n c] 29)) (gx) 29 #[.int .i64 x, .int .i64 d, .int .i64 1, .int .i64 le, .bool wa, .slice A n c] := HX.out.alloc (.cells #[.int .i64 c0, .int .i64 c1, .int .i64 c2, .int .i64 c3, .bool wa, .slice A n c] 29)
          have GY : Blk (v4.alloc (.cells #[.int .i64 c0, .int .i64 c1, .int .i64 c2, .int .i64 c3, .bool wa, .slice A n c] 29)) (v4.heap.size) 29 #[.int .i64 c0, .int .i64 c1, .int .i64 c2, .int .i64 c3, .bool wa, .slice A n c] := Blk.new v4 _ _
          have GE : Below w.heap.size w (v4.alloc (.cells #[.int .i64 c0, .int .i64 c1, .int .i64 c2, .int .i64 c3, .bool wa, .slice A n c] 29)) := EE.out.alloc EE.out.size (.cells #[.int .i64 c0, .int .i64 c1, .int .i64 c2, .int .i64 c3, .bool wa, .slice A n c] 29)
          obtain ⟨gy, hgy⟩ : ∃ g, v4.heap.size = g := ⟨_, rfl⟩
          have ne4_0 : gy ≠ w.heap.size := by have := HS.out.lt; omega
          have ne0_4 : w.heap.size ≠ gy := by have := HS.out.lt; omega
          have ne4_1 : gy ≠ w.heap.size + 1 := by have := HC.out.lt; omega
          have ne1_4 : w.heap.size + 1 ≠ gy := by have := HC.out.lt; omega
          have ne4_2 : gy ≠ w.heap.size + 1 + 1 := by have := HL.out.lt; omega
          have ne2_4 : w.heap.size + 1 + 1 ≠ gy := by have := HL.out.lt; omega
          have ne4_3 : gy ≠ gx := by have := HX.out.lt; omega
          have ne3_4 : gx ≠ gy := by have := HX.out.lt; omega
          have gegy : w.heap.size ≤ gy := by have := EE.out.size; omega
          rw [hgy] at GY ⊢
          clear hgy
          obtain ⟨v5, hv5⟩ : ∃ V, (v4.alloc (.cells #[.int .i64 c0, .int .i64 c1, .int .i64 c2, .int .i64 c3, .bool wa, .slice A n c] 29)) = V := ⟨_, rfl⟩
          rw [hv5] at GS GC GL GX GY GE ⊢
          have HS := Lib.hid GS
          have HC := Lib.hid GC
          have HL := Lib.hid GL
          have HX := Lib.hid GX
          have HY := Lib.hid GY
          have EE := Lib.hid GE
          clear hv5 GS GC GL GX GY GE
          have kS0 : v5.cell? ⟨w.heap.size, 0, none⟩ = some (.int .i64 (s 0)) := HS.out.cell 0
          have kS1 : v5.cell? ⟨w.heap.size, 1, none⟩ = some (.int .i64 (s 1)) := HS.out.cell 1
          have kS2 : v5.cell? ⟨w.heap.size, 2, none⟩ = some (.int .i64 (s 2)) := HS.out.cell 2
          have kS3 : v5.cell? ⟨w.heap.size, 3, none⟩ = some (.int .i64 (s 3)) := HS.out.cell 3
          have kS4 : v5.cell? ⟨w.heap.size, 4, none⟩ = some (.int .i64 (s 4)) := HS.out.cell 4
          have kS5 : v5.cell? ⟨w.heap.size, 5, none⟩ = some (.int .i64 (s 5)) := HS.out.cell 5
          have kS6 : v5.cell? ⟨w.heap.size, 6, none⟩ = some (.int .i64 (s 6)) := HS.out.cell 6
          have kS7 : v5.cell? ⟨w.heap.size, 7, none⟩ = some (.int .i64 (s 7)) := HS.out.cell 7
          have kS8 : v5.cell? ⟨w.heap.size, 8, none⟩ = some (.slice SA sn sc) := HS.out.cell 8
          have kS9 : v5.cell? ⟨w.heap.size, 9, none⟩ = some (.int .i64 (s 9)) := HS.out.cell 9
          have kS10 : v5.cell? ⟨w.heap.size, 10, none⟩ = some (.int .i64 (s 10)) := HS.out.cell 10
          have kS11 : v5.cell? ⟨w.heap.size, 11, none⟩ = some (.int .i64 (s 11)) := HS.out.cell 11
          have kS12 : v5.cell? ⟨w.heap.size, 12, none⟩ = some (.int .i64 (s 12)) := HS.out.cell 12
          have kC0 : v5.cell? ⟨w.heap.size + 1, 0, none⟩ = some (.int .i64 p) := HC.out.cell 0
          have kC1 : v5.cell? ⟨w.heap.size + 1, 1, none⟩ = some (.int .i64 d) := HC.out.cell 1
          have kC2 : v5.cell? ⟨w.heap.size + 1, 2, none⟩ = some (.int .i64 1) := HC.out.cell 2
          have kC3 : v5.cell? ⟨w.heap.size + 1, 3, none⟩ = some (.int .i64 le) := HC.out.cell 3
          have kC4 : v5.cell? ⟨w.heap.size + 1, 4, none⟩ = some (.bool wa) := HC.out.cell 4
          have kC5 : v5.cell? ⟨w.heap.size + 1, 5, none⟩ = some (.slice A n c) := HC.out.cell 5
          have kL0 : v5.cell? ⟨w.heap.size + 1 + 1, 0, none⟩ = some (.int .u64 a0) := HL.out.cell 0
          have kL1 : v5.cell? ⟨w.heap.size + 1 + 1, 1, none⟩ = some (.int .u64 a1) := HL.out.cell 1
          have kL2 : v5.cell? ⟨w.heap.size + 1 + 1, 2, none⟩ = some (.int .u64 b0) := HL.out.cell 2
          have kL3 : v5.cell? ⟨w.heap.size + 1 + 1, 3, none⟩ = some (.int .u64 b1) := HL.out.cell 3
          have kX0 : v5.cell? ⟨gx, 0, none⟩ = some (.int .i64 x) := HX.out.cell 0
          have kX1 : v5.cell? ⟨gx, 1, none⟩ = some (.int .i64 d) := HX.out.cell 1
          have kX2 : v5.cell? ⟨gx, 2, none⟩ = some (.int .i64 1) := HX.out.cell 2
          have kX3 : v5.cell? ⟨gx, 3, none⟩ = some (.int .i64 le) := HX.out.cell 3
          have kX4 : v5.cell? ⟨gx, 4, none⟩ = some (.bool wa) := HX.out.cell 4
          have kX5 : v5.cell? ⟨gx, 5, none⟩ = some (.slice A n c) := HX.out.cell 5
          have kY0 : v5.cell? ⟨gy, 0, none⟩ = some (.int .i64 c0) := HY.out.cell 0
          have kY1 : v5.cell? ⟨gy, 1, none⟩ = some (.int .i64 c1) := HY.out.cell 1
          have kY2 : v5.cell? ⟨gy, 2, none⟩ = some (.int .i64 c2) := HY.out.cell 2
          have kY3 : v5.cell? ⟨gy, 3, none⟩ = some (.int .i64 c3) := HY.out.cell 3
          have kY4 : v5.cell? ⟨gy, 4, none⟩ = some (.bool wa) := HY.out.cell 4
          have kY5 : v5.cell? ⟨gy, 5, none⟩ = some (.slice A n c) := HY.out.cell 5
          refine (qalive _).mono ?_
          rintro e v6 ⟨rfl, hb⟩
          clear kS0 kS1 kS2 kS3 kS4 kS5 kS6 kS7 kS8 kS9 kS10 kS11 kS12 kC0 kC1 kC2 kC3 kC4 kC5 kL0 kL1 kL2 kL3 kX0 kX1 kX2 kX3 kX4 kX5 kY0 kY1 kY2 kY3 kY4 kY5
          have HS := Lib.hid (Blk.next (w := v5) HS.out hb)
          have HC := Lib.hid (Blk.next (w := v5) HC.out hb)
          have HL := Lib.hid (Blk.next (w := v5) HL.out hb)
          have HX := Lib.hid (Blk.next (w := v5) HX.out hb)
          have HY := Lib.hid (Blk.next (w := v5) HY.out hb)
          have EE := Lib.hid (EE.out.trans (hb.mono EE.out.size))
          clear hb
          have kS0 : v6.cell? ⟨w.heap.size, 0, none⟩ = some (.int .i64 (s 0)) := HS.out.cell 0
          have kS1 : v6.cell? ⟨w.heap.size, 1, none⟩ = some (.int .i64 (s 1)) := HS.out.cell 1
          have kS2 : v6.cell? ⟨w.heap.size, 2, none⟩ = some (.int .i64 (s 2)) := HS.out.cell 2
          have kS3 : v6.cell? ⟨w.heap.size, 3, none⟩ = some (.int .i64 (s 3)) := HS.out.cell 3
          have kS4 : v6.cell? ⟨w.heap.size, 4, none⟩ = some (.int .i64 (s 4)) := HS.out.cell 4
          have kS5 : v6.cell? ⟨w.heap.size, 5, none⟩ = some (.int .i64 (s 5)) := HS.out.cell 5
          have kS6 : v6.cell? ⟨w.heap.size, 6, none⟩ = some (.int .i64 (s 6)) := HS.out.cell 6
          have kS7 : v6.cell? ⟨w.heap.size, 7, none⟩ = some (.int .i64 (s 7)) := HS.out.cell 7
          have kS8 : v6.cell? ⟨w.heap.size, 8, none⟩ = some (.slice SA sn sc) := HS.out.cell 8
          have kS9 : v6.cell? ⟨w.heap.size, 9, none⟩ = some (.int .i64 (s 9)) := HS.out.cell 9
          have kS10 : v6.cell? ⟨w.heap.size, 10, none⟩ = some (.int .i64 (s 10)) := HS.out.cell 10
          have kS11 : v6.cell? ⟨w.heap.size, 11, none⟩ = some (.int .i64 (s 11)) := HS.out.cell 11
          have kS12 : v6.cell? ⟨w.heap.size, 12, none⟩ = some (.int .i64 (s 12)) := HS.out.cell 12
          have kC0 : v6.cell? ⟨w.heap.size + 1, 0, none⟩ = some (.int .i64 p) := HC.out.cell 0
          have kC1 : v6.cell? ⟨w.heap.size + 1, 1, none⟩ = some (.int .i64 d) := HC.out.cell 1
          have kC2 : v6.cell? ⟨w.heap.size + 1, 2, none⟩ = some (.int .i64 1) := HC.out.cell 2
          have kC3 : v6.cell? ⟨w.heap.size + 1, 3, none⟩ = some (.int .i64 le) := HC.out.cell 3
          have kC4 : v6.cell? ⟨w.heap.size + 1, 4, none⟩ = some (.bool wa) := HC.out.cell 4
          have kC5 : v6.cell? ⟨w.heap.size + 1, 5, none⟩ = some (.slice A n c) := HC.out.cell 5
          have kL0 : v6.cell? ⟨w.heap.size + 1 + 1, 0, none⟩ = some (.int .u64 a0) := HL.out.cell 0
          have kL1 : v6.cell? ⟨w.heap.size + 1 + 1, 1, none⟩ = some (.int .u64 a1) := HL.out.cell 1
          have kL2 : v6.cell? ⟨w.heap.size + 1 + 1, 2, none⟩ = some (.int .u64 b0) := HL.out.cell 2
          have kL3 : v6.cell? ⟨w.heap.size + 1 + 1, 3, none⟩ = some (.int .u64 b1) := HL.out.cell 3
          have kX0 : v6.cell? ⟨gx, 0, none⟩ = some (.int .i64 x) := HX.out.cell 0
          have kX1 : v6.cell? ⟨gx, 1, none⟩ = some (.int .i64 d) := HX.out.cell 1
          have kX2 : v6.cell? ⟨gx, 2, none⟩ = some (.int .i64 1) := HX.out.cell 2
          have kX3 : v6.cell? ⟨gx, 3, none⟩ = some (.int .i64 le) := HX.out.cell 3
          have kX4 : v6.cell? ⟨gx, 4, none⟩ = some (.bool wa) := HX.out.cell 4
          have kX5 : v6.cell? ⟨gx, 5, none⟩ = some (.slice A n c) := HX.out.cell 5
          have kY0 : v6.cell? ⟨gy, 0, none⟩ = some (.int .i64 c0) := HY.out.cell 0
          have kY1 : v6.cell? ⟨gy, 1, none⟩ = some (.int .i64 c1) := HY.out.cell 1
          have kY2 : v6.cell? ⟨gy, 2, none⟩ = some (.int .i64 c2) := HY.out.cell 2
          have kY3 : v6.cell? ⟨gy, 3, none⟩ = some (.int .i64 c3) := HY.out.cell 3
          have kY4 : v6.cell? ⟨gy, 4, none⟩ = some (.bool wa) := HY.out.cell 4
          have kY5 : v6.cell? ⟨gy, 5, none⟩ = some (.slice A n c) := HY.out.cell 5
          go_wp2_with fail
          go_ret
          exact ⟨by first | rfl | (simp; done), EE.out⟩
        · have hmb : (c1 != d) = true := by rw [bne_iff_ne]; exact hm
          clear hm OFFh RSk
          go_wp2_with fail
          clear kS0 kS1 kS2 kS3 kS4 kS5 kS6 kS7 kS8 kS9 kS10 kS11 kS12 kC0 kC1 kC2 kC3 kC4 kC5 kL0 kL1 kL2 kL3 kX0 kX1 kX2 kX3 kX4 kX5 lS lC lL lX
          have GS : Blk (v4.alloc (.cells #[.int .i64 c0, .int .i64 c1, .int .i64 1, .int .i64 c3, .bool wa, .slice A n c] 29)) (w.heap.size) 25 #[.int .i64 (s 0), .int .i64 (s 1), .int .i64 (s 2), .int .i64 (s 3), .int .i64 (s 4), .int .i64 (s 5), .int .i64 (s 6), .int .i64 (s 7), .slice SA sn sc, .int .i64 (s 9), .int .i64 (s 10), .int .i64 (s 11), .int .i64 (s 12)] := HS.out.alloc (.cells #[.int .i64 c0, .int .i64 c1, .int .i64 1, .int .i64 c3, .bool wa, .slice A n c] 29)
          have GC : Blk (v4.alloc (.cells #[.int .i64 c0, .int .i64 c1, .int .i64 1, .int .i64 c3, .bool wa, .slice A n c] 29)) (w.heap.size + 1) 29 #[.int .i64 p, .int .i64 d, .int .i64 1, .int .i64 le, .bool wa, .slice A n c] := HC.out.alloc (.cells #[.int .i64 c0, .int .i64 c1, .int .i64 1, .int .i64 c3, .bool wa, .slice A n c] 29)
          have GL : Blk (v4.alloc (.cells #[.int .i64 c0, .int .i64 c1, .int .i64 1, .int .i64 c3, .bool wa, .slice A n c] 29)) (w.heap.size + 1 + 1) 33 #[.int .u64 a0, .int .u64 a1, .int .u64 b0, .int .u64 b1] := HL.out.alloc (.cells #[.int .i64 c0, .int .i64 c1, .int .i64 1, .int .i64 c3, .bool wa, .slice A n c] 29)
          have GX : Blk (v4.alloc (.cells #[.int .i64 c0, .int .i64 c1, .int .i64 1, .int .i64 c3, .bool wa, .slice A n c] 29)) (gx) 29 #[.int .i64 x, .int .i64 d, .int .i64 1, .int .i64 le, .bool wa, .slice A n c] := HX.out.alloc (.cells #[.int .i64 c0, .int .i64 c1, .int .i64 1, .int .i64 c3, .bool wa, .slice A n c] 29)
          have GY : Blk (v4.alloc (.cells #[.int .i64 c0, .int .i64 c1, .int .i64 1, .int .i64 c3, .bool wa, .slice A n c] 29)) (v4.heap.size) 29 #[.int .i64 c0, .int .i64 c1, .int .i64 1, .int .i64 c3, .bool wa, .slice A n c] := Blk.new v4 _ _
          have GE : Below w.heap.size w (v4.alloc (.cells #[.int .i64 c0, .int .i64 c1, .int .i64 1, .int .i64 c3, .bool wa, .slice A n c] 29)) := EE.out.alloc EE.out.size (.cells #[.int .i64 c0, .int .i64 c1, .int .i64 1, .int .i64 c3, .bool wa, .slice A n c] 29)
          obtain ⟨gy, hgy⟩ : ∃ g, v4.heap.size = g := ⟨_, rfl⟩
          have ne4_0 : gy ≠ w.heap.size := by have := HS.out.lt; omega
          have ne0_4 : w.heap.size ≠ gy := by have := HS.out.lt; omega
          have ne4_1 : gy ≠ w.heap.size + 1 := by have := HC.out.lt; omega
          have ne1_4 : w.heap.size + 1 ≠ gy := by have := HC.out.lt; omega
          have ne4_2 : gy ≠ w.heap.size + 1 + 1 := by have := HL.out.lt; omega
          have ne2_4 : w.heap.size + 1 + 1 ≠ gy := by have := HL.out.lt; omega
          have ne4_3 : gy ≠ gx := by have := HX.out.lt; omega
          have ne3_4 : gx ≠ gy := by have := HX.out.lt; omega
          have gegy : w.heap.size ≤ gy := by have := EE.out.size; omega
          rw [hgy] at GY ⊢
          clear hgy
          obtain ⟨v5, hv5⟩ : ∃ V, (v4.alloc (.cells #[.int .i64 c0, .int .i64 c1, .int .i64 1, .int .i64 c3, .bool wa, .slice A n c] 29)) = V := ⟨_, rfl⟩
          rw [hv5] at GS GC GL GX GY GE ⊢
          have HS := Lib.hid GS
          have HC := Lib.hid GC
          have HL := Lib.hid GL
          have HX := Lib.hid GX
          have HY := Lib.hid GY
          have EE := Lib.hid GE
          clear hv5 GS GC GL GX GY GE
          have kS0 : v5.cell? ⟨w.heap.size, 0, none⟩ = some (.int .i64 (s 0)) := HS.out.cell 0
          have kS1 : v5.cell? ⟨w.heap.size, 1, none⟩ = some (.int .i64 (s 1)) := HS.out.cell 1
          have kS2 : v5.cell? ⟨w.heap.size, 2, none⟩ = some (.int .i64 (s 2)) := HS.out.cell 2
          have kS3 : v5.cell? ⟨w.heap.size, 3, none⟩ = some (.int .i64 (s 3)) := HS.out.cell 3
          have kS4 : v5.cell? ⟨w.heap.size, 4, none⟩ = some (.int .i64 (s 4)) := HS.out.cell 4
          have kS5 : v5.cell? ⟨w.heap.size, 5, none⟩ = some (.int .i64 (s 5)) := HS.out.cell 5
          have kS6 : v5.cell? ⟨w.heap.size, 6, none⟩ = some (.int .i64 (s 6)) := HS.out.cell 6
          have kS7 : v5.cell? ⟨w.heap.size, 7, none⟩ = some (.int .i64 (s 7)) := HS.out.cell 7
          have kS8 : v5.cell? ⟨w.heap.size, 8, none⟩ = some (.slice SA sn sc) := HS.out.cell 8
          have kS9 : v5.cell? ⟨w.heap.size, 9, none⟩ = some (.int .i64 (s 9)) := HS.out.cell 9
          have kS10 : v5.cell? ⟨w.heap.size, 10, none⟩ = some (.int .i64 (s 10)) := HS.out.cell 10
          have kS11 : v5.cell? ⟨w.heap.size, 11, none⟩ = some (.int .i64 (s 11)) := HS.out.cell 11
          have kS12 : v5.cell? ⟨w.heap.size, 12, none⟩ = some (.int .i64 (s 12)) := HS.out.cell 12
          have kC0 : v5.cell? ⟨w.heap.size + 1, 0, none⟩ = some (.int .i64 p) := HC.out.cell 0
          have kC1 : v5.cell? ⟨w.heap.size + 1, 1, none⟩ = some (.int .i64 d) := HC.out.cell 1
          have kC2 : v5.cell? ⟨w.heap.size + 1, 2, none⟩ = some (.int .i64 1) := HC.out.cell 2
          have kC3 : v5.cell? ⟨w.heap.size + 1, 3, none⟩ = some (.int .i64 le) := HC.out.cell 3
          have kC4 : v5.cell? ⟨w.heap.size + 1, 4, none⟩ = some (.bool wa) := HC.out.cell 4
          have kC5 : v5.cell? ⟨w.heap.size + 1, 5, none⟩ = some (.slice A n c) := HC.out.cell 5
          have kL0 : v5.cell? ⟨w.heap.size + 1 + 1, 0, none⟩ = some (.int .u64 a0) := HL.out.cell 0
          have kL1 : v5.cell? ⟨w.heap.size + 1 + 1, 1, none⟩ = some (.int .u64 a1) := HL.out.cell 1
          have kL2 : v5.cell? ⟨w.heap.size + 1 + 1, 2, none⟩ = some (.int .u64 b0) := HL.out.cell 2
          have kL3 : v5.cell? ⟨w.heap.size + 1 + 1, 3, none⟩ = some (.int .u64 b1) := HL.out.cell 3
          have kX0 : v5.cell? ⟨gx, 0, none⟩ = some (.int .i64 x) := HX.out.cell 0
          have kX1 : v5.cell? ⟨gx, 1, none⟩ = some (.int .i64 d) := HX.out.cell 1
          have kX2 : v5.cell? ⟨gx, 2, none⟩ = some (.int .i64 1) := HX.out.cell 2
          have kX3 : v5.cell? ⟨gx, 3, none⟩ = some (.int .i64 le) := HX.out.cell 3
          have kX4 : v5.cell? ⟨gx, 4, none⟩ = some (.bool wa) := HX.out.cell 4
          have kX5 : v5.cell? ⟨gx, 5, none⟩ = some (.slice A n c) := HX.out.cell 5
          have kY0 : v5.cell? ⟨gy, 0, none⟩ = some (.int .i64 c0) := HY.out.cell 0
          have kY1 : v5.cell? ⟨gy, 1, none⟩ = some (.int .i64 c1) := HY.out.cell 1
          have kY2 : v5.cell? ⟨gy, 2, none⟩ = some (.int .i64 1) := HY.out.cell 2
          have kY3 : v5.cell? ⟨gy, 3, none⟩ = some (.int .i64 c3) := HY.out.cell 3
          have kY4 : v5.cell? ⟨gy, 4, none⟩ = some (.bool wa) := HY.out.cell 4
          have kY5 : v5.cell? ⟨gy, 5, none⟩ = some (.slice A n c) := HY.out.cell 5
          refine (qalive _).mono ?_
          rintro e v6 ⟨rfl, hb⟩
          clear kS0 kS1 kS2 kS3 kS4 kS5 kS6 kS7 kS8 kS9 kS10 kS11 kS12 kC0 kC1 kC2 kC3 kC4 kC5 kL0 kL1 kL2 kL3 kX0 kX1 kX2 kX3 kX4 kX5 kY0 kY1 kY2 kY3 kY4 kY5
          have HS := Lib.hid (Blk.next (w := v5) HS.out hb)
          have HC := Lib.hid (Blk.next (w := v5) HC.out hb)
          have HL := Lib.hid (Blk.next (w := v5) HL.out hb)
          have HX := Lib.hid (Blk.next (w := v5) HX.out hb)
          have HY := Lib.hid (Blk.next (w := v5) HY.out hb)
          have EE := Lib.hid (EE.out.trans (hb.mono EE.out.size))
          clear hb
          have kS0 : v6.cell? ⟨w.heap.size, 0, none⟩ = some (.int .i64 (s 0)) := HS.out.cell 0
          have kS1 : v6.cell? ⟨w.heap.size, 1, none⟩ = some (.int .i64 (s 1)) := HS.out.cell 1
          have kS2 : v6.cell? ⟨w.heap.size, 2, none⟩ = some (.int .i64 (s 2)) := HS.out.cell 2
          have kS3 : v6.cell? ⟨w.heap.size, 3, none⟩ = some (.int .i64 (s 3)) := HS.out.cell 3
          have kS4 : v6.cell? ⟨w.heap.size, 4, none⟩ = some (.int .i64 (s 4)) := HS.out.cell 4
          have kS5 : v6.cell? ⟨w.heap.size, 5, none⟩ = some (.int .i64 (s 5)) := HS.out.cell 5
          have kS6 : v6.cell? ⟨w.heap.size, 6, none⟩ = some (.int .i64 (s 6)) := HS.out.cell 6
          have kS7 : v6.cell? ⟨w.heap.size, 7, none⟩ = some (.int .i64 (s 7)) := HS.out.cell 7
          have kS8 : v6.cell? ⟨w.heap.size, 8, none⟩ = some (.slice SA sn sc) := HS.out.cell 8
          have kS9 : v6.cell? ⟨w.heap.size, 9, none⟩ = some (.int .i64 (s 9)) := HS.out.cell 9
          have kS10 : v6.cell? ⟨w.heap.size, 10, none⟩ = some (.int .i64 (s 10)) := HS.out.cell 10
          have kS11 : v6.cell? ⟨w.heap.size, 11, none⟩ = some (.int .i64 (s 11)) := HS.out.cell 11
          have kS12 : v6.cell? ⟨w.heap.size, 12, none⟩ = some (.int .i64 (s 12)) := HS.out.cell 12
          have kC0 : v6.cell? ⟨w.heap.size + 1, 0, none⟩ = some (.int .i64 p) := HC.out.cell 0
          have kC1 : v6.cell? ⟨w.heap.size + 1, 1, none⟩ = some (.int .i64 d) := HC.out.cell 1
          have kC2 : v6.cell? ⟨w.heap.size + 1, 2, none⟩ = some (.int .i64 1) := HC.out.cell 2
          have kC3 : v6.cell? ⟨w.heap.size + 1, 3, none⟩ = some (.int .i64 le) := HC.out.cell 3
          have kC4 : v6.cell? ⟨w.heap.size + 1, 4, none⟩ = some (.bool wa) := HC.out.cell 4
          have kC5 : v6.cell? ⟨w.heap.size + 1, 5, none⟩ = some (.slice A n c) := HC.out.cell 5
          have kL0 : v6.cell? ⟨w.heap.size + 1 + 1, 0, none⟩ = some (.int .u64 a0) := HL.out.cell 0
          have kL1 : v6.cell? ⟨w.heap.size + 1 + 1, 1, none⟩ = some (.int .u64 a1) := HL.out.cell 1
          have kL2 : v6.cell? ⟨w.heap.size + 1 + 1, 2, none⟩ = some (.int .u64 b0) := HL.out.cell 2
          have kL3 : v6.cell? ⟨w.heap.size + 1 + 1, 3, none⟩ = some (.int .u64 b1) := HL.out.cell 3
          have kX0 : v6.cell? ⟨gx, 0, none⟩ = some (.int .i64 x) := HX.out.cell 0
          have kX1 : v6.cell? ⟨gx, 1, none⟩ = some (.int .i64 d) := HX.out.cell 1
          have kX2 : v6.cell? ⟨gx, 2, none⟩ = some (.int .i64 1) := HX.out.cell 2
          have kX3 : v6.cell? ⟨gx, 3, none⟩ = some (.int .i64 le) := HX.out.cell 3
          have kX4 : v6.cell? ⟨gx, 4, none⟩ = some (.bool wa) := HX.out.cell 4
          have kX5 : v6.cell? ⟨gx, 5, none⟩ = some (.slice A n c) := HX.out.cell 5
          have kY0 : v6.cell? ⟨gy, 0, none⟩ = some (.int .i64 c0) := HY.out.cell 0
          have kY1 : v6.cell? ⟨gy, 1, none⟩ = some (.int .i64 c1) := HY.out.cell 1
          have kY2 : v6.cell? ⟨gy, 2, none⟩ = some (.int .i64 1) := HY.out.cell 2
          have kY3 : v6.cell? ⟨gy, 3, none⟩ = some (.int .i64 c3) := HY.out.cell 3
          have kY4 : v6.cell? ⟨gy, 4, none⟩ = some (.bool wa) := HY.out.cell 4
          have kY5 : v6.cell? ⟨gy, 5, none⟩ = some (.slice A n c) := HY.out.cell 5
          go_wp2_with fail
          go_ret
          exact ⟨by first | rfl | (simp; done), EE.out⟩
end Go.Proofs.Ytffcmfpadaebdaa
