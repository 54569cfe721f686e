/- For how long a car only goes on: rests, Next, After; the example of layer 44. -/
import Derived.Test.YtffcmfpadaebdaaFaceB
import Derived.Test.YtffcmfpadaebdaaCarM
import Derived.Test.YtffcmfpadaebdaaWantM
import Derived.Test.YtffcmfpadaebdaaRows
import Derived.Test.YtffcmfpadaebdaaKitM
import Derived.Test.YtffcmfpadaebdaaBitM
import Derived.Laws.AppendOwnNone
import Derived.WalkKit
import Derived.OwnWalk
import Derived.Laws.MakeOwn
import Derived.Laws.OwnMore
import Derived.Deep.LoopGhost
import Derived.IntWalk
import Derived.Lib.Hide
import Derived.WalkSpells
import Derived.WalkLawsBesides
import Derived.Laws.CopyOwn
import Derived.Deep.QuietTactic
import Derived.Deep.RegionHeld3
import Derived.BigQuiet
import Derived.BigRegion
import Derived.Test.YtffcmfpadaebdaaMoveB
import Derived.Test.YtffcmfpadaebdaaFaceC
import Derived.Test.YtffcmfpadaebdaaFaceD
import Derived.Test.YtffcmfpadaebdaaNearH
import Derived.Test.YtffcmfpadaebdaaPlaceA
import Derived.Test.YtffcmfpadaebdaaMoveMath
import Derived.Test.YtffcmfpadaebdaaMoveC
import Derived.Maps.AppendAt
import Derived.Test.YtffcmfpadaebdaaMoveD
import Derived.Test.YtffcmfpadaebdaaMoveE
import Derived.Test.YtffcmfpadaebdaaMoveF
import Derived.Test.YtffcmfpadaebdaaFaceE
namespace Go.Proofs.Ytffcmfpadaebdaa
open Go.RowKit
set_option linter.unusedSimpArgs false
set_option linter.unusedVariables false
/-- does a car that stands have nothing to do? -/
def restB (R W U D : Nat → Bool) (q d : Int) : Bool := (d == 0) && (!stopB R W U D q d && (ofWay W U D q d == 0))
set_option maxRecDepth 100000 in
set_option maxHeartbeats 2000000 in
theorem qrests_any (s : Nat → Int) (SA : Option Addr) (sn sc : Nat) (p d md le : Int) (wa : Bool) (A : Option Addr) (n c : Nat) (z : Nat → Nat → Int) (U D : Nat → Bool) (q r : Int) (w : World) (hr : RdZ w 2 A n z) (hl : n ≤ 1000) (hg : 1 ≤ s 1) (hp : 0 ≤ p) (hp' : p ≤ 1048576) (r0 : 0 ≤ r) (r1 : r < s 1) (e : p = q * s 1 + r) :
    Calls Try.prog 31 #[scnV s SA sn sc, carV p d md le wa A n c, setV U, setV D] w fun e w' => e = .returned (.bool (restB (rdF z n) (waF z n (s 3) U D) (laF n (s 3) U) (laF n (s 3) D) q d)) ∧ Below w.heap.size w w' := by
  have FL := fun w => floor_any p (s 1) q r w hg hp (by omega) r0 r1 e
  have SE := fun w hr => see_any p d md le wa A n c z (s 3) U D w hr (by omega)
  have ST := fun w hr => stop_any (rdF z n) (waF z n (s 3) U D) (laF n (s 3) U) (laF n (s 3) D) q p d md le wa A n c z w hr (by omega) rfl
  have WY := fun w => ofway_any (waF z n (s 3) U D) (laF n (s 3) U) (laF n (s 3) D) q d w
  unfold restB
  unfold scnV carV setV sgtV at *
  obtain ⟨a0, ha0⟩ : ∃ x, wordX U = x := ⟨_, rfl⟩
  obtain ⟨a1, ha1⟩ : ∃ x, wordY U = x := ⟨_, rfl⟩
  obtain ⟨b0, hb0⟩ : ∃ x, wordX D = x := ⟨_, rfl⟩
  obtain ⟨b1, hb1⟩ : ∃ x, wordY D = x := ⟨_, rfl⟩
  obtain ⟨u0, hu0⟩ : ∃ x, wordX (laF n (s 3) U) = x := ⟨_, rfl⟩
  obtain ⟨u1, hu1⟩ : ∃ x, wordY (laF n (s 3) U) = x := ⟨_, rfl⟩
  obtain ⟨l0, hl0⟩ : ∃ x, wordX (laF n (s 3) D) = x := ⟨_, rfl⟩
  obtain ⟨l1, hl1⟩ : ∃ x, wordY (laF n (s 3) D) = x := ⟨_, rfl⟩
  obtain ⟨t0, ht0⟩ : ∃ x, wordX (waF z n (s 3) U D) = x := ⟨_, rfl⟩
  obtain ⟨t1, ht1⟩ : ∃ x, wordY (waF z n (s 3) U D) = x := ⟨_, rfl⟩
  obtain ⟨st, hst⟩ : ∃ b, stopB (rdF z n) (waF z n (s 3) U D) (laF n (s 3) U) (laF n (s 3) D) q d = b := ⟨_, rfl⟩
  obtain ⟨o, ho⟩ : ∃ b, ofWay (waF z n (s 3) U D) (laF n (s 3) U) (laF n (s 3) D) q d = b := ⟨_, rfl⟩
  simp only [ha0, ha1, hb0, hb1, hu0, hu1, hl0, hl1, ht0, ht1, hst, ho] at SE ST WY ⊢
  replace FL := Lib.hid FL; replace SE := Lib.hid SE; replace ST := Lib.hid ST; replace WY := Lib.hid WY
  have HRd := Lib.hid hr
  clear ha0 ha1 hb0 hb1 hu0 hu1 hl0 hl1 ht0 ht1 hst ho hr e
  by_cases h7 : d = 0
  · subst h7
    cases st
    · go_enter Try.func31, Try.ntmps31
      go_wp2_with fail
      have BS := (((Blk.new w #[.int .i64 (s 0), .int .i64 (s 1), .int .i64 (s 2), .int .i64 (s 3), .int .i64 (s 4), .int .i64 (s 5), .int .i64 (s 6), .int .i64 (s 7), .slice SA sn sc, .int .i64 (s 9), .int .i64 (s 10), .int .i64 (s 11), .int .i64 (s 12)] 25).alloc (.cells #[.int .i64 p, .int .i64 0, .int .i64 md, .int .i64 le, .bool wa, .slice A n c] 29)).alloc (.cells #[.int .u64 a0, .int .u64 a1] 32)).alloc (.cells #[.int .u64 b0, .int .u64 b1] 32)
      have BC := ((Blk.new (w.alloc (.cells #[.int .i64 (s 0), .int .i64 (s 1), .int .i64 (s 2), .int .i64 (s 3), .int .i64 (s 4), .int .i64 (s 5), .int .i64 (s 6), .int .i64 (s 7), .slice SA sn sc, .int .i64 (s 9), .int .i64 (s 10), .int .i64 (s 11), .int .i64 (s 12)] 25)) #[.int .i64 p, .int .i64 0, .int .i64 md, .int .i64 le, .bool wa, .slice A n c] 29).alloc (.cells #[.int .u64 a0, .int .u64 a1] 32)).alloc (.cells #[.int .u64 b0, .int .u64 b1] 32)
      rw [World.size_alloc] at BC
      have BU := (Blk.new ((w.alloc (.cells #[.int .i64 (s 0), .int .i64 (s 1), .int .i64 (s 2), .int .i64 (s 3), .int .i64 (s 4), .int .i64 (s 5), .int .i64 (s 6), .int .i64 (s 7), .slice SA sn sc, .int .i64 (s 9), .int .i64 (s 10), .int .i64 (s 11), .int .i64 (s 12)] 25)).alloc (.cells #[.int .i64 p, .int .i64 0, .int .i64 md, .int .i64 le, .bool wa, .slice A n c] 29)) #[.int .u64 a0, .int .u64 a1] 32).alloc (.cells #[.int .u64 b0, .int .u64 b1] 32)
      rw [World.size_alloc, World.size_alloc] at BU
      have BD := Blk.new (((w.alloc (.cells #[.int .i64 (s 0), .int .i64 (s 1), .int .i64 (s 2), .int .i64 (s 3), .int .i64 (s 4), .int .i64 (s 5), .int .i64 (s 6), .int .i64 (s 7), .slice SA sn sc, .int .i64 (s 9), .int .i64 (s 10), .int .i64 (s 11), .int .i64 (s 12)] 25)).alloc (.cells #[.int .i64 p, .int .i64 0, .int .i64 md, .int .i64 le, .bool wa, .slice A n c] 29)).alloc (.cells #[.int .u64 a0, .int .u64 a1] 32)) #[.int .u64 b0, .int .u64 b1] 32
      rw [World.size_alloc, World.size_alloc, World.size_alloc] at BD
      have BE : Below w.heap.size w ((((w.alloc (.cells #[.int .i64 (s 0), .int .i64 (s 1), .int .i64 (s 2), .int .i64 (s 3), .int .i64 (s 4), .int .i64 (s 5), .int .i64 (s 6), .int .i64 (s 7), .slice SA sn sc, .int .i64 (s 9), .int .i64 (s 10), .int .i64 (s 11), .int .i64 (s 12)] 25)).alloc (.cells #[.int .i64 p, .int .i64 0, .int .i64 md, .int .i64 le, .bool wa, .slice A n c] 29)).alloc (.cells #[.int .u64 a0, .int .u64 a1] 32)).alloc (.cells #[.int .u64 b0, .int .u64 b1] 32)) := ((((Below.refl w.heap.size w).alloc (Nat.le_refl _) _).alloc (by simp <;> omega) _).alloc (by simp <;> omega) _).alloc (by simp <;> omega) _
      obtain ⟨V0, hV0⟩ : ∃ V, ((((w.alloc (.cells #[.int .i64 (s 0), .int .i64 (s 1), .int .i64 (s 2), .int .i64 (s 3), .int .i64 (s 4), .int .i64 (s 5), .int .i64 (s 6), .int .i64 (s 7), .slice SA sn sc, .int .i64 (s 9), .int .i64 (s 10), .int .i64 (s 11), .int .i64 (s 12)] 25)).alloc (.cells #[.int .i64 p, .int .i64 0, .int .i64 md, .int .i64 le, .bool wa, .slice A n c] 29)).alloc (.cells #[.int .u64 a0, .int .u64 a1] 32)).alloc (.cells #[.int .u64 b0, .int .u64 b1] 32)) = V := ⟨_, rfl⟩
      rw [hV0] at BS BC BU BD BE ⊢
      have HS := Lib.hid BS
      have HC := Lib.hid BC
      have HU := Lib.hid BU
      have HD := Lib.hid BD
      have EE := Lib.hid BE
      have ne0_1 : w.heap.size ≠ w.heap.size + 1 := by omega
      have ne0_2 : w.heap.size ≠ w.heap.size + 1 + 1 := by omega
      have ne0_3 : w.heap.size ≠ w.heap.size + 1 + 1 + 1 := by omega
      have ne1_0 : w.heap.size + 1 ≠ w.heap.size := by omega
      have ne1_2 : w.heap.size + 1 ≠ w.heap.size + 1 + 1 := by omega
      have ne1_3 : w.heap.size + 1 ≠ w.heap.size + 1 + 1 + 1 := by omega
      have ne2_0 : w.heap.size + 1 + 1 ≠ w.heap.size := by omega
      have ne2_1 : w.heap.size + 1 + 1 ≠ w.heap.size + 1 := by omega
      have ne2_3 : w.heap.size + 1 + 1 ≠ w.heap.size + 1 + 1 + 1 := by omega
      have ne3_0 : w.heap.size + 1 + 1 + 1 ≠ w.heap.size := by omega
      have ne3_1 : w.heap.size + 1 + 1 + 1 ≠ w.heap.size + 1 := by omega
      have ne3_2 : w.heap.size + 1 + 1 + 1 ≠ w.heap.size + 1 + 1 := by omega
      clear hV0 BE BS BC BU BD
      have kS0 : V0.cell? ⟨w.heap.size, 0, none⟩ = some (.int .i64 (s 0)) := HS.out.cell 0
      have kS1 : V0.cell? ⟨w.heap.size, 1, none⟩ = some (.int .i64 (s 1)) := HS.out.cell 1
      have kS2 : V0.cell? ⟨w.heap.size, 2, none⟩ = some (.int .i64 (s 2)) := HS.out.cell 2
      have kS3 : V0.cell? ⟨w.heap.size, 3, none⟩ = some (.int .i64 (s 3)) := HS.out.cell 3
      have kS4 : V0.cell? ⟨w.heap.size, 4, none⟩ = some (.int .i64 (s 4)) := HS.out.cell 4
      have kS5 : V0.cell? ⟨w.heap.size, 5, none⟩ = some (.int .i64 (s 5)) := HS.out.cell 5
      have kS6 : V0.cell? ⟨w.heap.size, 6, none⟩ = some (.int .i64 (s 6)) := HS.out.cell 6
      have kS7 : V0.cell? ⟨w.heap.size, 7, none⟩ = some (.int .i64 (s 7)) := HS.out.cell 7
      have kS8 : V0.cell? ⟨w.heap.size, 8, none⟩ = some (.slice SA sn sc) := HS.out.cell 8
      have kS9 : V0.cell? ⟨w.heap.size, 9, none⟩ = some (.int .i64 (s 9)) := HS.out.cell 9
      have kS10 : V0.cell? ⟨w.heap.size, 10, none⟩ = some (.int .i64 (s 10)) := HS.out.cell 10
      have kS11 : V0.cell? ⟨w.heap.size, 11, none⟩ = some (.int .i64 (s 11)) := HS.out.cell 11
      have kS12 : V0.cell? ⟨w.heap.size, 12, none⟩ = some (.int .i64 (s 12)) := HS.out.cell 12
      have kC0 : V0.cell? ⟨w.heap.size + 1, 0, none⟩ = some (.int .i64 p) := HC.out.cell 0
      have kC1 : V0.cell? ⟨w.heap.size + 1, 1, none⟩ = some (.int .i64 0) := HC.out.cell 1
      have kC2 : V0.cell? ⟨w.heap.size + 1, 2, none⟩ = some (.int .i64 md) := HC.out.cell 2
      have kC3 : V0.cell? ⟨w.heap.size + 1, 3, none⟩ = some (.int .i64 le) := HC.out.cell 3
      have kC4 : V0.cell? ⟨w.heap.size + 1, 4, none⟩ = some (.bool wa) := HC.out.cell 4
      have kC5 : V0.cell? ⟨w.heap.size + 1, 5, none⟩ = some (.slice A n c) := HC.out.cell 5
      have kU0 : V0.cell? ⟨w.heap.size + 1 + 1, 0, none⟩ = some (.int .u64 a0) := HU.out.cell 0
      have kU1 : V0.cell? ⟨w.heap.size + 1 + 1, 1, none⟩ = some (.int .u64 a1) := HU.out.cell 1
      have kD0 : V0.cell? ⟨w.heap.size + 1 + 1 + 1, 0, none⟩ = some (.int .u64 b0) := HD.out.cell 0
      have kD1 : V0.cell? ⟨w.heap.size + 1 + 1 + 1, 1, none⟩ = some (.int .u64 b1) := HD.out.cell 1
      refine (FL.out _).mono ?_
      rintro e v1 ⟨rfl, kk, hk⟩
      have hb : Below V0.heap.size V0 v1 := by rw [hk]; exact below_drewN (Below.refl _ _) kk
      clear hk
      clear kS0 kS1 kS2 kS3 kS4 kS5 kS6 kS7 kS8 kS9 kS10 kS11 kS12 kC0 kC1 kC2 kC3 kC4 kC5 kU0 kU1 kD0 kD1
      have HS := Lib.hid (Blk.next (w := V0) HS.out hb)
      have HC := Lib.hid (Blk.next (w := V0) HC.out hb)
      have HU := Lib.hid (Blk.next (w := V0) HU.out hb)
      have HD := Lib.hid (Blk.next (w := V0) HD.out hb)
      have EE := Lib.hid (EE.out.trans (hb.mono EE.out.size))
      clear hb
      have kS0 : v1.cell? ⟨w.heap.size, 0, none⟩ = some (.int .i64 (s 0)) := HS.out.cell 0
      have kS1 : v1.cell? ⟨w.heap.size, 1, none⟩ = some (.int .i64 (s 1)) := HS.out.cell 1
      have kS2 : v1.cell? ⟨w.heap.size, 2, none⟩ = some (.int .i64 (s 2)) := HS.out.cell 2
      have kS3 : v1.cell? ⟨w.heap.size, 3, none⟩ = some (.int .i64 (s 3)) := HS.out.cell 3
      have kS4 : v1.cell? ⟨w.heap.size, 4, none⟩ = some (.int .i64 (s 4)) := HS.out.cell 4
      have kS5 : v1.cell? ⟨w.heap.size, 5, none⟩ = some (.int .i64 (s 5)) := HS.out.cell 5
      have kS6 : v1.cell? ⟨w.heap.size, 6, none⟩ = some (.int .i64 (s 6)) := HS.out.cell 6
      have kS7 : v1.cell? ⟨w.heap.size, 7, none⟩ = some (.int .i64 (s 7)) := HS.out.cell 7
      have kS8 : v1.cell? ⟨w.heap.size, 8, none⟩ = some (.slice SA sn sc) := HS.out.cell 8
      have kS9 : v1.cell? ⟨w.heap.size, 9, none⟩ = some (.int .i64 (s 9)) := HS.out.cell 9
      have kS10 : v1.cell? ⟨w.heap.size, 10, none⟩ = some (.int .i64 (s 10)) := HS.out.cell 10
      have kS11 : v1.cell? ⟨w.heap.size, 11, none⟩ = some (.int .i64 (s 11)) := HS.out.cell 11
      have kS12 : v1.cell? ⟨w.heap.size, 12, none⟩ = some (.int .i64 (s 12)) := HS.out.cell 12
      have kC0 : v1.cell? ⟨w.heap.size + 1, 0, none⟩ = some (.int .i64 p) := HC.out.cell 0
      have kC1 : v1.cell? ⟨w.heap.size + 1, 1, none⟩ = some (.int .i64 0) := HC.out.cell 1
      have kC2 : v1.cell? ⟨w.heap.size + 1, 2, none⟩ = some (.int .i64 md) := HC.out.cell 2
      have kC3 : v1.cell? ⟨w.heap.size + 1, 3, none⟩ = some (.int .i64 le) := HC.out.cell 3
      have kC4 : v1.cell? ⟨w.heap.size + 1, 4, none⟩ = some (.bool wa) := HC.out.cell 4
      have kC5 : v1.cell? ⟨w.heap.size + 1, 5, none⟩ = some (.slice A n c) := HC.out.cell 5
      have kU0 : v1.cell? ⟨w.heap.size + 1 + 1, 0, none⟩ = some (.int .u64 a0) := HU.out.cell 0
      have kU1 : v1.cell? ⟨w.heap.size + 1 + 1, 1, none⟩ = some (.int .u64 a1) := HU.out.cell 1
      have kD0 : v1.cell? ⟨w.heap.size + 1 + 1 + 1, 0, none⟩ = some (.int .u64 b0) := HD.out.cell 0
      have kD1 : v1.cell? ⟨w.heap.size + 1 + 1 + 1, 1, none⟩ = some (.int .u64 b1) := HD.out.cell 1
      go_wp2_with fail
      refine (SE.out _ (HRd.out.kept EE.out)).mono ?_
      rintro e v2 ⟨rfl, hb⟩
      clear kS0 kS1 kS2 kS3 kS4 kS5 kS6 kS7 kS8 kS9 kS10 kS11 kS12 kC0 kC1 kC2 kC3 kC4 kC5 kU0 kU1 kD0 kD1
      have HS := Lib.hid (Blk.next (w := v1) HS.out hb)
      have HC := Lib.hid (Blk.next (w := v1) HC.out hb)
      have HU := Lib.hid (Blk.next (w := v1) HU.out hb)
      have HD := Lib.hid (Blk.next (w := v1) HD.out hb)
      have EE := Lib.hid (EE.out.trans (hb.mono EE.out.size))
      clear hb
      have kS0 : v2.cell? ⟨w.heap.size, 0, none⟩ = some (.int .i64 (s 0)) := HS.out.cell 0
      have kS1 : v2.cell? ⟨w.heap.size, 1, none⟩ = some (.int .i64 (s 1)) := HS.out.cell 1
      have kS2 : v2.cell? ⟨w.heap.size, 2, none⟩ = some (.int .i64 (s 2)) := HS.out.cell 2
      have kS3 : v2.cell? ⟨w.heap.size, 3, none⟩ = some (.int .i64 (s 3)) := HS.out.cell 3
      have kS4 : v2.cell? ⟨w.heap.size, 4, none⟩ = some (.int .i64 (s 4)) := HS.out.cell 4
      have kS5 : v2.cell? ⟨w.heap.size, 5, none⟩ = some (.int .i64 (s 5)) := HS.out.cell 5
      have kS6 : v2.cell? ⟨w.heap.size, 6, none⟩ = some (.int .i64 (s 6)) := HS.out.cell 6
      have kS7 : v2.cell? ⟨w.heap.size, 7, none⟩ = some (.int .i64 (s 7)) := HS.out.cell 7
      have kS8 : v2.cell? ⟨w.heap.size, 8, none⟩ = some (.slice SA sn sc) := HS.out.cell 8
      have kS9 : v2.cell? ⟨w.heap.size, 9, none⟩ = some (.int .i64 (s 9)) := HS.out.cell 9
      have kS10 : v2.cell? ⟨w.heap.size, 10, none⟩ = some (.int .i64 (s 10)) := HS.out.cell 10
      have kS11 : v2.cell? ⟨w.heap.size, 11, none⟩ = some (.int .i64 (s 11)) := HS.out.cell 11
      have kS12 : v2.cell? ⟨w.heap.size, 12, none⟩ = some (.int .i64 (s 12)) := HS.out.cell 12
      have kC0 : v2.cell? ⟨w.heap.size + 1, 0, none⟩ = some (.int .i64 p) := HC.out.cell 0
      have kC1 : v2.cell? ⟨w.heap.size + 1, 1, none⟩ = some (.int .i64 0) := HC.out.cell 1
      have kC2 : v2.cell? ⟨w.heap.size + 1, 2, none⟩ = some (.int .i64 md) := HC.out.cell 2
      have kC3 : v2.cell? ⟨w.heap.size + 1, 3, none⟩ = some (.int .i64 le) := HC.out.cell 3
      have kC4 : v2.cell? ⟨w.heap.size + 1, 4, none⟩ = some (.bool wa) := HC.out.cell 4
      have kC5 : v2.cell? ⟨w.heap.size + 1, 5, none⟩ = some (.slice A n c) := HC.out.cell 5
      have kU0 : v2.cell? ⟨w.heap.size + 1 + 1, 0, none⟩ = some (.int .u64 a0) := HU.out.cell 0
      have kU1 : v2.cell? ⟨w.heap.size + 1 + 1, 1, none⟩ = some (.int .u64 a1) := HU.out.cell 1
      have kD0 : v2.cell? ⟨w.heap.size + 1 + 1 + 1, 0, none⟩ = some (.int .u64 b0) := HD.out.cell 0
      have kD1 : v2.cell? ⟨w.heap.size + 1 + 1 + 1, 1, none⟩ = some (.int .u64 b1) := HD.out.cell 1
      have lS := HS.out.lt
      have lC := HC.out.lt
      have lU := HU.out.lt
      have lD := HD.out.lt
      go_wp2_with fail
      clear kS0 kS1 kS2 kS3 kS4 kS5 kS6 kS7 kS8 kS9 kS10 kS11 kS12 kC0 kC1 kC2 kC3 kC4 kC5 kU0 kU1 kD0 kD1 lS lC lU lD
      have GS : Blk (v2.alloc (.cells #[.int .u64 t0, .int .u64 t1, .int .u64 u0, .int .u64 u1, .int .u64 l0, .int .u64 l1] 56)) (w.heap.size) 25 #[.int .i64 (s 0), .int .i64 (s 1), .int .i64 (s 2), .int .i64 (s 3), .int .i64 (s 4), .int .i64 (s 5), .int .i64 (s 6), .int .i64 (s 7), .slice SA sn sc, .int .i64 (s 9), .int .i64 (s 10), .int .i64 (s 11), .int .i64 (s 12)] := HS.out.alloc (.cells #[.int .u64 t0, .int .u64 t1, .int .u64 u0, .int .u64 u1, .int .u64 l0, .int .u64 l1] 56)
      have GC : Blk (v2.alloc (.cells #[.int .u64 t0, .int .u64 t1, .int .u64 u0, .int .u64 u1, .int .u64 l0, .int .u64 l1] 56)) (w.heap.size + 1) 29 #[.int .i64 p, .int .i64 0, .int .i64 md, .int .i64 le, .bool wa, .slice A n c] := HC.out.alloc (.cells #[.int .u64 t0, .int .u64 t1, .int .u64 u0, .int .u64 u1, .int .u64 l0, .int .u64 l1] 56)
      have GU : Blk (v2.alloc (.cells #[.int .u64 t0, .int .u64 t1, .int .u64 u0, .int .u64 u1, .int .u64 l0, .int .u64 l1] 56)) (w.heap.size + 1 + 1) 32 #[.int .u64 a0, .int .u64 a1] := HU.out.alloc (.cells #[.int .u64 t0, .int .u64 t1, .int .u64 u0, .int .u64 u1, .int .u64 l0, .int .u64 l1] 56)
      have GD : Blk (v2.alloc (.cells #[.int .u64 t0, .int .u64 t1, .int .u64 u0, .int .u64 u1, .int .u64 l0, .int .u64 l1] 56)) (w.heap.size + 1 + 1 + 1) 32 #[.int .u64 b0, .int .u64 b1] := HD.out.alloc (.cells #[.int .u64 t0, .int .u64 t1, .int .u64 u0, .int .u64 u1, .int .u64 l0, .int .u64 l1] 56)
      have GW : Blk (v2.alloc (.cells #[.int .u64 t0, .int .u64 t1, .int .u64 u0, .int .u64 u1, .int .u64 l0, .int .u64 l1] 56)) (v2.heap.size) 56 #[.int .u64 t0, .int .u64 t1, .int .u64 u0, .int .u64 u1, .int .u64 l0, .int .u64 l1] := Blk.new v2 _ _
      have GE : Below w.heap.size w (v2.alloc (.cells #[.int .u64 t0, .int .u64 t1, .int .u64 u0, .int .u64 u1, .int .u64 l0, .int .u64 l1] 56)) := EE.out.alloc EE.out.size (.cells #[.int .u64 t0, .int .u64 t1, .int .u64 u0, .int .u64 u1, .int .u64 l0, .int .u64 l1] 56)
      obtain ⟨gw, hgw⟩ : ∃ g, v2.heap.size = g := ⟨_, rfl⟩
      have ne4_0 : gw ≠ w.heap.size := by have := HS.out.lt; omega
      have ne0_4 : w.heap.size ≠ gw := by have := HS.out.lt; omega
      have ne4_1 : gw ≠ w.heap.size + 1 := by have := HC.out.lt; omega
      have ne1_4 : w.heap.size + 1 ≠ gw := by have := HC.out.lt; omega
      have ne4_2 : gw ≠ w.heap.size + 1 + 1 := by have := HU.out.lt; omega
      have ne2_4 : w.heap.size + 1 + 1 ≠ gw := by have := HU.out.lt; omega
      have ne4_3 : gw ≠ w.heap.size + 1 + 1 + 1 := by have := HD.out.lt; omega
      have ne3_4 : w.heap.size + 1 + 1 + 1 ≠ gw := by have := HD.out.lt; omega
      have gegw : w.heap.size ≤ gw := by have := EE.out.size; omega
      rw [hgw] at GW ⊢
      clear hgw
      obtain ⟨v3, hv3⟩ : ∃ V, (v2.alloc (.cells #[.int .u64 t0, .int .u64 t1, .int .u64 u0, .int .u64 u1, .int .u64 l0, .int .u64 l1] 56)) = V := ⟨_, rfl⟩
      rw [hv3] at GS GC GU GD GW GE ⊢
      have HS := Lib.hid GS
      have HC := Lib.hid GC
      have HU := Lib.hid GU
      have HD := Lib.hid GD
      have HW := Lib.hid GW
      have EE := Lib.hid GE
      clear hv3 GS GC GU GD GW GE
      have kS0 : v3.cell? ⟨w.heap.size, 0, none⟩ = some (.int .i64 (s 0)) := HS.out.cell 0
      have kS1 : v3.cell? ⟨w.heap.size, 1, none⟩ = some (.int .i64 (s 1)) := HS.out.cell 1
      have kS2 : v3.cell? ⟨w.heap.size, 2, none⟩ = some (.int .i64 (s 2)) := HS.out.cell 2
      have kS3 : v3.cell? ⟨w.heap.size, 3, none⟩ = some (.int .i64 (s 3)) := HS.out.cell 3
      have kS4 : v3.cell? ⟨w.heap.size, 4, none⟩ = some (.int .i64 (s 4)) := HS.out.cell 4
      have kS5 : v3.cell? ⟨w.heap.size, 5, none⟩ = some (.int .i64 (s 5)) := HS.out.cell 5
      have kS6 : v3.cell? ⟨w.heap.size, 6, none⟩ = some (.int .i64 (s 6)) := HS.out.cell 6
      have kS7 : v3.cell? ⟨w.heap.size, 7, none⟩ = some (.int .i64 (s 7)) := HS.out.cell 7
      have kS8 : v3.cell? ⟨w.heap.size, 8, none⟩ = some (.slice SA sn sc) := HS.out.cell 8
      have kS9 : v3.cell? ⟨w.heap.size, 9, none⟩ = some (.int .i64 (s 9)) := HS.out.cell 9
      have kS10 : v3.cell? ⟨w.heap.size, 10, none⟩ = some (.int .i64 (s 10)) := HS.out.cell 10
      have kS11 : v3.cell? ⟨w.heap.size, 11, none⟩ = some (.int .i64 (s 11)) := HS.out.cell 11
      have kS12 : v3.cell? ⟨w.heap.size, 12, none⟩ = some (.int .i64 (s 12)) := HS.out.cell 12
      have kC0 : v3.cell? ⟨w.heap.size + 1, 0, none⟩ = some (.int .i64 p) := HC.out.cell 0
      have kC1 : v3.cell? ⟨w.heap.size + 1, 1, none⟩ = some (.int .i64 0) := HC.out.cell 1
      have kC2 : v3.cell? ⟨w.heap.size + 1, 2, none⟩ = some (.int .i64 md) := HC.out.cell 2
      have kC3 : v3.cell? ⟨w.heap.size + 1, 3, none⟩ = some (.int .i64 le) := HC.out.cell 3
      have kC4 : v3.cell? ⟨w.heap.size + 1, 4, none⟩ = some (.bool wa) := HC.out.cell 4
      have kC5 : v3.cell? ⟨w.heap.size + 1, 5, none⟩ = some (.slice A n c) := HC.out.cell 5
      have kU0 : v3.cell? ⟨w.heap.size + 1 + 1, 0, none⟩ = some (.int .u64 a0) := HU.out.cell 0
      have kU1 : v3.cell? ⟨w.heap.size + 1 + 1, 1, none⟩ = some (.int .u64 a1) := HU.out.cell 1
      have kD0 : v3.cell? ⟨w.heap.size + 1 + 1 + 1, 0, none⟩ = some (.int .u64 b0) := HD.out.cell 0
      have kD1 : v3.cell? ⟨w.heap.size + 1 + 1 + 1, 1, none⟩ = some (.int .u64 b1) := HD.out.cell 1
      have kW0 : v3.cell? ⟨gw, 0, none⟩ = some (.int .u64 t0) := HW.out.cell 0
      have kW1 : v3.cell? ⟨gw, 1, none⟩ = some (.int .u64 t1) := HW.out.cell 1
      have kW2 : v3.cell? ⟨gw, 2, none⟩ = some (.int .u64 u0) := HW.out.cell 2
      have kW3 : v3.cell? ⟨gw, 3, none⟩ = some (.int .u64 u1) := HW.out.cell 3
      have kW4 : v3.cell? ⟨gw, 4, none⟩ = some (.int .u64 l0) := HW.out.cell 4
      have kW5 : v3.cell? ⟨gw, 5, none⟩ = some (.int .u64 l1) := HW.out.cell 5
      refine (ST.out _ (HRd.out.kept EE.out)).mono ?_
      rintro e v4 ⟨rfl, hb⟩
      clear kS0 kS1 kS2 kS3 kS4 kS5 kS6 kS7 kS8 kS9 kS10 kS11 kS12 kC0 kC1 kC2 kC3 kC4 kC5 kU0 kU1 kD0 kD1 kW0 kW1 kW2 kW3 kW4 kW5
      have HS := Lib.hid (Blk.next (w := v3) HS.out hb)
      have HC := Lib.hid (Blk.next (w := v3) HC.out hb)
      have HU := Lib.hid (Blk.next (w := v3) HU.out hb)
      have HD := Lib.hid (Blk.next (w := v3) HD.out hb)
      have HW := Lib.hid (Blk.next (w := v3) HW.out hb)
      have EE := Lib.hid (EE.out.trans (hb.mono EE.out.size))
      clear hb
      have kS0 : v4.cell? ⟨w.heap.size, 0, none⟩ = some (.int .i64 (s 0)) := HS.out.cell 0
      have kS1 : v4.cell? ⟨w.heap.size, 1, none⟩ = some (.int .i64 (s 1)) := HS.out.cell 1
      have kS2 : v4.cell? ⟨w.heap.size, 2, none⟩ = some (.int .i64 (s 2)) := HS.out.cell 2
      have kS3 : v4.cell? ⟨w.heap.size, 3, none⟩ = some (.int .i64 (s 3)) := HS.out.cell 3
      have kS4 : v4.cell? ⟨w.heap.size, 4, none⟩ = some (.int .i64 (s 4)) := HS.out.cell 4
      have kS5 : v4.cell? ⟨w.heap.size, 5, none⟩ = some (.int .i64 (s 5)) := HS.out.cell 5
      have kS6 : v4.cell? ⟨w.heap.size, 6, none⟩ = some (.int .i64 (s 6)) := HS.out.cell 6
      have kS7 : v4.cell? ⟨w.heap.size, 7, none⟩ = some (.int .i64 (s 7)) := HS.out.cell 7
      have kS8 : v4.cell? ⟨w.heap.size, 8, none⟩ = some (.slice SA sn sc) := HS.out.cell 8
      have kS9 : v4.cell? ⟨w.heap.size, 9, none⟩ = some (.int .i64 (s 9)) := HS.out.cell 9
      have kS10 : v4.cell? ⟨w.heap.size, 10, none⟩ = some (.int .i64 (s 10)) := HS.out.cell 10
      have kS11 : v4.cell? ⟨w.heap.size, 11, none⟩ = some (.int .i64 (s 11)) := HS.out.cell 11
      have kS12 : v4.cell? ⟨w.heap.size, 12, none⟩ = some (.int .i64 (s 12)) := HS.out.cell 12
      have kC0 : v4.cell? ⟨w.heap.size + 1, 0, none⟩ = some (.int .i64 p) := HC.out.cell 0
      have kC1 : v4.cell? ⟨w.heap.size + 1, 1, none⟩ = some (.int .i64 0) := HC.out.cell 1
      have kC2 : v4.cell? ⟨w.heap.size + 1, 2, none⟩ = some (.int .i64 md) := HC.out.cell 2
      have kC3 : v4.cell? ⟨w.heap.size + 1, 3, none⟩ = some (.int .i64 le) := HC.out.cell 3
      have kC4 : v4.cell? ⟨w.heap.size + 1, 4, none⟩ = some (.bool wa) := HC.out.cell 4
      have kC5 : v4.cell? ⟨w.heap.size + 1, 5, none⟩ = some (.slice A n c) := HC.out.cell 5
      have kU0 : v4.cell? ⟨w.heap.size + 1 + 1, 0, none⟩ = some (.int .u64 a0) := HU.out.cell 0
      have kU1 : v4.cell? ⟨w.heap.size + 1 + 1, 1, none⟩ = some (.int .u64 a1) := HU.out.cell 1
      have kD0 : v4.cell? ⟨w.heap.size + 1 + 1 + 1, 0, none⟩ = some (.int .u64 b0) := HD.out.cell 0
      have kD1 : v4.cell? ⟨w.heap.size + 1 + 1 + 1, 1, none⟩ = some (.int .u64 b1) := HD.out.cell 1
      have kW0 : v4.cell? ⟨gw, 0, none⟩ = some (.int .u64 t0) := HW.out.cell 0
      have kW1 : v4.cell? ⟨gw, 1, none⟩ = some (.int .u64 t1) := HW.out.cell 1
      have kW2 : v4.cell? ⟨gw, 2, none⟩ = some (.int .u64 u0) := HW.out.cell 2
      have kW3 : v4.cell? ⟨gw, 3, none⟩ = some (.int .u64 u1) := HW.out.cell 3
      have kW4 : v4.cell? ⟨gw, 4, none⟩ = some (.int .u64 l0) := HW.out.cell 4
      have kW5 : v4.cell? ⟨gw, 5, none⟩ = some (.int .u64 l1) := HW.out.cell 5
      go_wp2_with fail
      refine (WY.out _).mono ?_
      rintro e v5 ⟨rfl, hb⟩
      clear kS0 kS1 kS2 kS3 kS4 kS5 kS6 kS7 kS8 kS9 kS10 kS11 kS12 kC0 kC1 kC2 kC3 kC4 kC5 kU0 kU1 kD0 kD1 kW0 kW1 kW2 kW3 kW4 kW5
      have HS := Lib.hid (Blk.next (w := v4) HS.out hb)
      have HC := Lib.hid (Blk.next (w := v4) HC.out hb)
      have HU := Lib.hid (Blk.next (w := v4) HU.out hb)
      have HD := Lib.hid (Blk.next (w := v4) HD.out hb)
      have HW := Lib.hid (Blk.next (w := v4) HW.out hb)
      have EE := Lib.hid (EE.out.trans (hb.mono EE.out.size))
      clear hb
      have kS0 : v5.cell? ⟨w.heap.size, 0, none⟩ = some (.int .i64 (s 0)) := HS.out.cell 0
      have kS1 : v5.cell? ⟨w.heap.size, 1, none⟩ = some (.int .i64 (s 1)) := HS.out.cell 1
      have kS2 : v5.cell? ⟨w.heap.size, 2, none⟩ = some (.int .i64 (s 2)) := HS.out.cell 2
      have kS3 : v5.cell? ⟨w.heap.size, 3, none⟩ = some (.int .i64 (s 3)) := HS.out.cell 3
      have kS4 : v5.cell? ⟨w.heap.size, 4, none⟩ = some (.int .i64 (s 4)) := HS.out.cell 4
      have kS5 : v5.cell? ⟨w.heap.size, 5, none⟩ = some (.int .i64 (s 5)) := HS.out.cell 5
      have kS6 : v5.cell? ⟨w.heap.size, 6, none⟩ = some (.int .i64 (s 6)) := HS.out.cell 6
      have kS7 : v5.cell? ⟨w.heap.size, 7, none⟩ = some (.int .i64 (s 7)) := HS.out.cell 7
      have kS8 : v5.cell? ⟨w.heap.size, 8, none⟩ = some (.slice SA sn sc) := HS.out.cell 8
      have kS9 : v5.cell? ⟨w.heap.size, 9, none⟩ = some (.int .i64 (s 9)) := HS.out.cell 9
      have kS10 : v5.cell? ⟨w.heap.size, 10, none⟩ = some (.int .i64 (s 10)) := HS.out.cell 10
      have kS11 : v5.cell? ⟨w.heap.size, 11, none⟩ = some (.int .i64 (s 11)) := HS.out.cell 11
      have kS12 : v5.cell? ⟨w.heap.size, 12, none⟩ = some (.int .i64 (s 12)) := HS.out.cell 12
      have kC0 : v5.cell? ⟨w.heap.size + 1, 0, none⟩ = some (.int .i64 p) := HC.out.cell 0
      have kC1 : v5.cell? ⟨w.heap.size + 1, 1, none⟩ = some (.int .i64 0) := HC.out.cell 1
      have kC2 : v5.cell? ⟨w.heap.size + 1, 2, none⟩ = some (.int .i64 md) := HC.out.cell 2
      have kC3 : v5.cell? ⟨w.heap.size + 1, 3, none⟩ = some (.int .i64 le) := HC.out.cell 3
      have kC4 : v5.cell? ⟨w.heap.size + 1, 4, none⟩ = some (.bool wa) := HC.out.cell 4
      have kC5 : v5.cell? ⟨w.heap.size + 1, 5, none⟩ = some (.slice A n c) := HC.out.cell 5
      have kU0 : v5.cell? ⟨w.heap.size + 1 + 1, 0, none⟩ = some (.int .u64 a0) := HU.out.cell 0
      have kU1 : v5.cell? ⟨w.heap.size + 1 + 1, 1, none⟩ = some (.int .u64 a1) := HU.out.cell 1
      have kD0 : v5.cell? ⟨w.heap.size + 1 + 1 + 1, 0, none⟩ = some (.int .u64 b0) := HD.out.cell 0
      have kD1 : v5.cell? ⟨w.heap.size + 1 + 1 + 1, 1, none⟩ = some (.int .u64 b1) := HD.out.cell 1
      have kW0 : v5.cell? ⟨gw, 0, none⟩ = some (.int .u64 t0) := HW.out.cell 0
      have kW1 : v5.cell? ⟨gw, 1, none⟩ = some (.int .u64 t1) := HW.out.cell 1
      have kW2 : v5.cell? ⟨gw, 2, none⟩ = some (.int .u64 u0) := HW.out.cell 2
      have kW3 : v5.cell? ⟨gw, 3, none⟩ = some (.int .u64 u1) := HW.out.cell 3
      have kW4 : v5.cell? ⟨gw, 4, none⟩ = some (.int .u64 l0) := HW.out.cell 4
      have kW5 : v5.cell? ⟨gw, 5, none⟩ = some (.int .u64 l1) := HW.out.cell 5
      go_wp2_with fail
      go_ret
      exact ⟨by first | rfl | (simp; done), EE.out⟩
    · go_enter Try.func31, Try.ntmps31
      go_wp2_with fail
      have BS := (((Blk.new w #[.int .i64 (s 0), .int .i64 (s 1), .int .i64 (s 2), .int .i64 (s 3), .int .i64 (s 4), .int .i64 (s 5), .int .i64 (s 6), .int .i64 (s 7), .slice SA sn sc, .int .i64 (s 9), .int .i64 (s 10), .int .i64 (s 11), .int .i64 (s 12)] 25).alloc (.cells #[.int .i64 p, .int .i64 0, .int .i64 md, .int .i64 le, .bool wa, .slice A n c] 29)).alloc (.cells #[.int .u64 a0, .int .u64 a1] 32)).alloc (.cells #[.int .u64 b0, .int .u64 b1] 32)
      have BC := ((Blk.new (w.alloc (.cells #[.int .i64 (s 0), .int .i64 (s 1), .int .i64 (s 2), .int .i64 (s 3), .int .i64 (s 4), .int .i64 (s 5), .int .i64 (s 6), .int .i64 (s 7), .slice SA sn sc, .int .i64 (s 9), .int .i64 (s 10), .int .i64 (s 11), .int .i64 (s 12)] 25)) #[.int .i64 p, .int .i64 0, .int .i64 md, .int .i64 le, .bool wa, .slice A n c] 29).alloc (.cells #[.int .u64 a0, .int .u64 a1] 32)).alloc (.cells #[.int .u64 b0, .int .u64 b1] 32)
      rw [World.size_alloc] at BC
      have BU := (Blk.new ((w.alloc (.cells #[.int .i64 (s 0), .int .i64 (s 1), .int .i64 (s 2), .int .i64 (s 3), .int .i64 (s 4), .int .i64 (s 5), .int .i64 (s 6), .int .i64 (s 7), .slice SA sn sc, .int .i64 (s 9), .int .i64 (s 10), .int .i64 (s 11), .int .i64 (s 12)] 25)).alloc (.cells #[.int .i64 p, .int .i64 0, .int .i64 md, .int .i64 le, .bool wa, .slice A n c] 29)) #[.int .u64 a0, .int .u64 a1] 32).alloc (.cells #[.int .u64 b0, .int .u64 b1] 32)
      rw [World.size_alloc, World.size_alloc] at BU
      have BD := Blk.new (((w.alloc (.cells #[.int .i64 (s 0), .int .i64 (s 1), .int .i64 (s 2), .int .i64 (s 3), .int .i64 (s 4), .int .i64 (s 5), .int .i64 (s 6), .int .i64 (s 7), .slice SA sn sc, .int .i64 (s 9), .int .i64 (s 10), .int .i64 (s 11), .int .i64 (s 12)] 25)).alloc (.cells #[.int .i64 p, .int .i64 0, .int .i64 md, .int .i64 le, .bool wa, .slice A n c] 29)).alloc (.cells #[.int .u64 a0, .int .u64 a1] 32)) #[.int .u64 b0, .int .u64 b1] 32
      rw [World.size_alloc, World.size_alloc, World.size_alloc] at BD
      have BE : Below w.heap.size w ((((w.alloc (.cells #[.int .i64 (s 0), .int .i64 (s 1), .int .i64 (s 2), .int .i64 (s 3), .int .i64 (s 4), .int .i64 (s 5), .int .i64 (s 6), .int .i64 (s 7), .slice SA sn sc, .int .i64 (s 9), .int .i64 (s 10), .int .i64 (s 11), .int .i64 (s 12)] 25)).alloc (.cells #[.int .i64 p, .int .i64 0, .int .i64 md, .int .i64 le, .bool wa, .slice A n c] 29)).alloc (.cells #[.int .u64 a0, .int .u64 a1] 32)).alloc (.cells #[.int .u64 b0, .int .u64 b1] 32)) := ((((Below.refl w.heap.size w).alloc (Nat.le_refl _) _).alloc (by simp <;> omega) _).alloc (by simp <;> omega) _).alloc (by simp <;> omega) _
      obtain ⟨V0, hV0⟩ : ∃ V, ((((w.alloc (.cells #[.int .i64 (s 0), .int .i64 (s 1), .int .i64 (s 2), .int .i64 (s 3), .int .i64 (s 4), .int .i64 (s 5), .int .i64 (s 6), .int .i64 (s 7), .slice SA sn sc, .int .i64 (s 9), .int .i64 (s 10), .int .i64 (s 11), .int .i64 (s 12)] 25)).alloc (.cells #[.int .i64 p, .int .i64 0, .int .i64 md, .int .i64 le, .bool wa, .slice A n c] 29)).alloc (.cells #[.int .u64 a0, .int .u64 a1] 32)).alloc (.cells #[.int .u64 b0, .int .u64 b1] 32)) = V := ⟨_, rfl⟩
      rw [hV0] at BS BC BU BD BE ⊢
      have HS := Lib.hid BS
      have HC := Lib.hid BC
      have HU := Lib.hid BU
      have HD := Lib.hid BD
      have EE := Lib.hid BE
      have ne0_1 : w.heap.size ≠ w.heap.size + 1 := by omega
      have ne0_2 : w.heap.size ≠ w.heap.size + 1 + 1 := by omega
      have ne0_3 : w.heap.size ≠ w.heap.size + 1 + 1 + 1 := by omega
      have ne1_0 : w.heap.size + 1 ≠ w.heap.size := by omega
      have ne1_2 : w.heap.size + 1 ≠ w.heap.size + 1 + 1 := by omega
      have ne1_3 : w.heap.size + 1 ≠ w.heap.size + 1 + 1 + 1 := by omega
      have ne2_0 : w.heap.size + 1 + 1 ≠ w.heap.size := by omega
      have ne2_1 : w.heap.size + 1 + 1 ≠ w.heap.size + 1 := by omega
      have ne2_3 : w.heap.size + 1 + 1 ≠ w.heap.size + 1 + 1 + 1 := by omega
      have ne3_0 : w.heap.size + 1 + 1 + 1 ≠ w.heap.size := by omega
      have ne3_1 : w.heap.size + 1 + 1 + 1 ≠ w.heap.size + 1 := by omega
      have ne3_2 : w.heap.size + 1 + 1 + 1 ≠ w.heap.size + 1 + 1 := by omega
      clear hV0 BE BS BC BU BD
      have kS0 : V0.cell? ⟨w.heap.size, 0, none⟩ = some (.int .i64 (s 0)) := HS.out.cell 0
      have kS1 : V0.cell? ⟨w.heap.size, 1, none⟩ = some (.int .i64 (s 1)) := HS.out.cell 1
      have kS2 : V0.cell? ⟨w.heap.size, 2, none⟩ = some (.int .i64 (s 2)) := HS.out.cell 2
      have kS3 : V0.cell? ⟨w.heap.size, 3, none⟩ = some (.int .i64 (s 3)) := HS.out.cell 3
      have kS4 : V0.cell? ⟨w.heap.size, 4, none⟩ = some (.int .i64 (s 4)) := HS.out.cell 4
      have kS5 : V0.cell? ⟨w.heap.size, 5, none⟩ = some (.int .i64 (s 5)) := HS.out.cell 5
      have kS6 : V0.cell? ⟨w.heap.size, 6, none⟩ = some (.int .i64 (s 6)) := HS.out.cell 6
      have kS7 : V0.cell? ⟨w.heap.size, 7, none⟩ = some (.int .i64 (s 7)) := HS.out.cell 7
      have kS8 : V0.cell? ⟨w.heap.size, 8, none⟩ = some (.slice SA sn sc) := HS.out.cell 8
      have kS9 : V0.cell? ⟨w.heap.size, 9, none⟩ = some (.int .i64 (s 9)) := HS.out.cell 9
      have kS10 : V0.cell? ⟨w.heap.size, 10, none⟩ = some (.int .i64 (s 10)) := HS.out.cell 10
      have kS11 : V0.cell? ⟨w.heap.size, 11, none⟩ = some (.int .i64 (s 11)) := HS.out.cell 11
      have kS12 : V0.cell? ⟨w.heap.size, 12, none⟩ = some (.int .i64 (s 12)) := HS.out.cell 12
      have kC0 : V0.cell? ⟨w.heap.size + 1, 0, none⟩ = some (.int .i64 p) := HC.out.cell 0
      have kC1 : V0.cell? ⟨w.heap.size + 1, 1, none⟩ = some (.int .i64 0) := HC.out.cell 1
      have kC2 : V0.cell? ⟨w.heap.size + 1, 2, none⟩ = some (.int .i64 md) := HC.out.cell 2
      have kC3 : V0.cell? ⟨w.heap.size + 1, 3, none⟩ = some (.int .i64 le) := HC.out.cell 3
      have kC4 : V0.cell? ⟨w.heap.size + 1, 4, none⟩ = some (.bool wa) := HC.out.cell 4
      have kC5 : V0.cell? ⟨w.heap.size + 1, 5, none⟩ = some (.slice A n c) := HC.out.cell 5
      have kU0 : V0.cell? ⟨w.heap.size + 1 + 1, 0, none⟩ = some (.int .u64 a0) := HU.out.cell 0
      have kU1 : V0.cell? ⟨w.heap.size + 1 + 1, 1, none⟩ = some (.int .u64 a1) := HU.out.cell 1
      have kD0 : V0.cell? ⟨w.heap.size + 1 + 1 + 1, 0, none⟩ = some (.int .u64 b0) := HD.out.cell 0
      have kD1 : V0.cell? ⟨w.heap.size + 1 + 1 + 1, 1, none⟩ = some (.int .u64 b1) := HD.out.cell 1
      refine (FL.out _).mono ?_
      rintro e v1 ⟨rfl, kk, hk⟩
      have hb : Below V0.heap.size V0 v1 := by rw [hk]; exact below_drewN (Below.refl _ _) kk
      clear hk
      clear kS0 kS1 kS2 kS3 kS4 kS5 kS6 kS7 kS8 kS9 kS10 kS11 kS12 kC0 kC1 kC2 kC3 kC4 kC5 kU0 kU1 kD0 kD1
      have HS := Lib.hid (Blk.next (w := V0) HS.out hb)
      have HC := Lib.hid (Blk.next (w := V0) HC.out hb)
      have HU := Lib.hid (Blk.next (w := V0) HU.out hb)
      have HD := Lib.hid (Blk.next (w := V0) HD.out hb)
      have EE := Lib.hid (EE.out.trans (hb.mono EE.out.size))
      clear hb
      have kS0 : v1.cell? ⟨w.heap.size, 0, none⟩ = some (.int .i64 (s 0)) := HS.out.cell 0
      have kS1 : v1.cell? ⟨w.heap.size, 1, none⟩ = some (.int .i64 (s 1)) := HS.out.cell 1
      have kS2 : v1.cell? ⟨w.heap.size, 2, none⟩ = some (.int .i64 (s 2)) := HS.out.cell 2
      have kS3 : v1.cell? ⟨w.heap.size, 3, none⟩ = some (.int .i64 (s 3)) := HS.out.cell 3
      have kS4 : v1.cell? ⟨w.heap.size, 4, none⟩ = some (.int .i64 (s 4)) := HS.out.cell 4
      have kS5 : v1.cell? ⟨w.heap.size, 5, none⟩ = some (.int .i64 (s 5)) := HS.out.cell 5
      have kS6 : v1.cell? ⟨w.heap.size, 6, none⟩ = some (.int .i64 (s 6)) := HS.out.cell 6
      have kS7 : v1.cell? ⟨w.heap.size, 7, none⟩ = some (.int .i64 (s 7)) := HS.out.cell 7
      have kS8 : v1.cell? ⟨w.heap.size, 8, none⟩ = some (.slice SA sn sc) := HS.out.cell 8
      have kS9 : v1.cell? ⟨w.heap.size, 9, none⟩ = some (.int .i64 (s 9)) := HS.out.cell 9
      have kS10 : v1.cell? ⟨w.heap.size, 10, none⟩ = some (.int .i64 (s 10)) := HS.out.cell 10
      have kS11 : v1.cell? ⟨w.heap.size, 11, none⟩ = some (.int .i64 (s 11)) := HS.out.cell 11
      have kS12 : v1.cell? ⟨w.heap.size, 12, none⟩ = some (.int .i64 (s 12)) := HS.out.cell 12
      have kC0 : v1.cell? ⟨w.heap.size + 1, 0, none⟩ = some (.int .i64 p) := HC.out.cell 0
      have kC1 : v1.cell? ⟨w.heap.size + 1, 1, none⟩ = some (.int .i64 0) := HC.out.cell 1
      have kC2 : v1.cell? ⟨w.heap.size + 1, 2, none⟩ = some (.int .i64 md) := HC.out.cell 2
      have kC3 : v1.cell? ⟨w.heap.size + 1, 3, none⟩ = some (.int .i64 le) := HC.out.cell 3
      have kC4 : v1.cell? ⟨w.heap.size + 1, 4, none⟩ = some (.bool wa) := HC.out.cell 4
      have kC5 : v1.cell? ⟨w.heap.size + 1, 5, none⟩ = some (.slice A n c) := HC.out.cell 5
      have kU0 : v1.cell? ⟨w.heap.size + 1 + 1, 0, none⟩ = some (.int .u64 a0) := HU.out.cell 0
      have kU1 : v1.cell? ⟨w.heap.size + 1 + 1, 1, none⟩ = some (.int .u64 a1) := HU.out.cell 1
      have kD0 : v1.cell? ⟨w.heap.size + 1 + 1 + 1, 0, none⟩ = some (.int .u64 b0) := HD.out.cell 0
      have kD1 : v1.cell? ⟨w.heap.size + 1 + 1 + 1, 1, none⟩ = some (.int .u64 b1) := HD.out.cell 1
      go_wp2_with fail
      refine (SE.out _ (HRd.out.kept EE.out)).mono ?_
      rintro e v2 ⟨rfl, hb⟩
      clear kS0 kS1 kS2 kS3 kS4 kS5 kS6 kS7 kS8 kS9 kS10 kS11 kS12 kC0 kC1 kC2 kC3 kC4 kC5 kU0 kU1 kD0 kD1
      have HS := Lib.hid (Blk.next (w := v1) HS.out hb)
      have HC := Lib.hid (Blk.next (w := v1) HC.out hb)
      have HU := Lib.hid (Blk.next (w := v1) HU.out hb)
      have HD := Lib.hid (Blk.next (w := v1) HD.out hb)
      have EE := Lib.hid (EE.out.trans (hb.mono EE.out.size))
      clear hb
      have kS0 : v2.cell? ⟨w.heap.size, 0, none⟩ = some (.int .i64 (s 0)) := HS.out.cell 0
      have kS1 : v2.cell? ⟨w.heap.size, 1, none⟩ = some (.int .i64 (s 1)) := HS.out.cell 1
      have kS2 : v2.cell? ⟨w.heap.size, 2, none⟩ = some (.int .i64 (s 2)) := HS.out.cell 2
      have kS3 : v2.cell? ⟨w.heap.size, 3, none⟩ = some (.int .i64 (s 3)) := HS.out.cell 3
      have kS4 : v2.cell? ⟨w.heap.size, 4, none⟩ = some (.int .i64 (s 4)) := HS.out.cell 4
      have kS5 : v2.cell? ⟨w.heap.size, 5, none⟩ = some (.int .i64 (s 5)) := HS.out.cell 5
      have kS6 : v2.cell? ⟨w.heap.size, 6, none⟩ = some (.int .i64 (s 6)) := HS.out.cell 6
      have kS7 : v2.cell? ⟨w.heap.size, 7, none⟩ = some (.int .i64 (s 7)) := HS.out.cell 7
      have kS8 : v2.cell? ⟨w.heap.size, 8, none⟩ = some (.slice SA sn sc) := HS.out.cell 8
      have kS9 : v2.cell? ⟨w.heap.size, 9, none⟩ = some (.int .i64 (s 9)) := HS.out.cell 9
      have kS10 : v2.cell? ⟨w.heap.size, 10, none⟩ = some (.int .i64 (s 10)) := HS.out.cell 10
      have kS11 : v2.cell? ⟨w.heap.size, 11, none⟩ = some (.int .i64 (s 11)) := HS.out.cell 11
      have kS12 : v2.cell? ⟨w.heap.size, 12, none⟩ = some (.int .i64 (s 12)) := HS.out.cell 12
      have kC0 : v2.cell? ⟨w.heap.size + 1, 0, none⟩ = some (.int .i64 p) := HC.out.cell 0
      have kC1 : v2.cell? ⟨w.heap.size + 1, 1, none⟩ = some (.int .i64 0) := HC.out.cell 1
      have kC2 : v2.cell? ⟨w.heap.size + 1, 2, none⟩ = some (.int .i64 md) := HC.out.cell 2
      have kC3 : v2.cell? ⟨w.heap.size + 1, 3, none⟩ = some (.int .i64 le) := HC.out.cell 3
      have kC4 : v2.cell? ⟨w.heap.size + 1, 4, none⟩ = some (.bool wa) := HC.out.cell 4
      have kC5 : v2.cell? ⟨w.heap.size + 1, 5, none⟩ = some (.slice A n c) := HC.out.cell 5
      have kU0 : v2.cell? ⟨w.heap.size + 1 + 1, 0, none⟩ = some (.int .u64 a0) := HU.out.cell 0
      have kU1 : v2.cell? ⟨w.heap.size + 1 + 1, 1, none⟩ = some (.int .u64 a1) := HU.out.cell 1
      have kD0 : v2.cell? ⟨w.heap.size + 1 + 1 + 1, 0, none⟩ = some (.int .u64 b0) := HD.out.cell 0
      have kD1 : v2.cell? ⟨w.heap.size + 1 + 1 + 1, 1, none⟩ = some (.int .u64 b1) := HD.out.cell 1
      have lS := HS.out.lt
      have lC := HC.out.lt
      have lU := HU.out.lt
      have lD := HD.out.lt
      go_wp2_with fail
      clear kS0 kS1 kS2 kS3 kS4 kS5 kS6 kS7 kS8 kS9 kS10 kS11 kS12 kC0 kC1 kC2 kC3 kC4 kC5 kU0 kU1 kD0 kD1 lS lC lU lD
      have GS : Blk (v2.alloc (.cells #[.int .u64 t0, .int .u64 t1, .int .u64 u0, .int .u64 u1, .int .u64 l0, .int .u64 l1] 56)) (w.heap.size) 25 #[.int .i64 (s 0), .int .i64 (s 1), .int .i64 (s 2), .int .i64 (s 3), .int .i64 (s 4), .int .i64 (s 5), .int .i64 (s 6), .int .i64 (s 7), .slice SA sn sc, .int .i64 (s 9), .int .i64 (s 10), .int .i64 (s 11), .int .i64 (s 12)] := HS.out.alloc (.cells #[.int .u64 t0, .int .u64 t1, .int .u64 u0, .int .u64 u1, .int .u64 l0, .int .u64 l1] 56)
      have GC : Blk (v2.alloc (.cells #[.int .u64 t0, .int .u64 t1, .int .u64 u0, .int .u64 u1, .int .u64 l0, .int .u64 l1] 56)) (w.heap.size + 1) 29 #[.int .i64 p, .int .i64 0, .int .i64 md, .int .i64 le, .bool wa, .slice A n c] := HC.out.alloc (.cells #[.int .u64 t0, .int .u64 t1, .int .u64 u0, .int .u64 u1, .int .u64 l0, .int .u64 l1] 56)
      have GU : Blk (v2.alloc (.cells #[.int .u64 t0, .int .u64 t1, .int .u64 u0, .int .u64 u1, .int .u64 l0, .int .u64 l1] 56)) (w.heap.size + 1 + 1) 32 #[.int .u64 a0, .int .u64 a1] := HU.out.alloc (.cells #[.int .u64 t0, .int .u64 t1, .int .u64 u0, .int .u64 u1, .int .u64 l0, .int .u64 l1] 56)
      have GD : Blk (v2.alloc (.cells #[.int .u64 t0, .int .u64 t1, .int .u64 u0, .int .u64 u1, .int .u64 l0, .int .u64 l1] 56)) (w.heap.size + 1 + 1 + 1) 32 #[.int .u64 b0, .int .u64 b1] := HD.out.alloc (.cells #[.int .u64 t0, .int .u64 t1, .int .u64 u0, .int .u64 u1, .int .u64 l0, .int .u64 l1] 56)
      have GW : Blk (v2.alloc (.cells #[.int .u64 t0, .int .u64 t1, .int .u64 u0, .int .u64 u1, .int .u64 l0, .int .u64 l1] 56)) (v2.heap.size) 56 #[.int .u64 t0, .int .u64 t1, .int .u64 u0, .int .u64 u1, .int .u64 l0, .int .u64 l1] := Blk.new v2 _ _
      have GE : Below w.heap.size w (v2.alloc (.cells #[.int .u64 t0, .int .u64 t1, .int .u64 u0, .int .u64 u1, .int .u64 l0, .int .u64 l1] 56)) := EE.out.alloc EE.out.size (.cells #[.int .u64 t0, .int .u64 t1, .int .u64 u0, .int .u64 u1, .int .u64 l0, .int .u64 l1] 56)
      obtain ⟨gw, hgw⟩ : ∃ g, v2.heap.size = g := ⟨_, rfl⟩
      have ne4_0 : gw ≠ w.heap.size := by have := HS.out.lt; omega
      have ne0_4 : w.heap.size ≠ gw := by have := HS.out.lt; omega
      have ne4_1 : gw ≠ w.heap.size + 1 := by have := HC.out.lt; omega
      have ne1_4 : w.heap.size + 1 ≠ gw := by have := HC.out.lt; omega
      have ne4_2 : gw ≠ w.heap.size + 1 + 1 := by have := HU.out.lt; omega
      have ne2_4 : w.heap.size + 1 + 1 ≠ gw := by have := HU.out.lt; omega
      have ne4_3 : gw ≠ w.heap.size + 1 + 1 + 1 := by have := HD.out.lt; omega
      have ne3_4 : w.heap.size + 1 + 1 + 1 ≠ gw := by have := HD.out.lt; omega
      have gegw : w.heap.size ≤ gw := by have := EE.out.size; omega
      rw [hgw] at GW ⊢
      clear hgw
      obtain ⟨v3, hv3⟩ : ∃ V, (v2.alloc (.cells #[.int .u64 t0, .int .u64 t1, .int .u64 u0, .int .u64 u1, .int .u64 l0, .int .u64 l1] 56)) = V := ⟨_, rfl⟩
      rw [hv3] at GS GC GU GD GW GE ⊢
      have HS := Lib.hid GS
      have HC := Lib.hid GC
      have HU := Lib.hid GU
      have HD := Lib.hid GD
      have HW := Lib.hid GW
      have EE := Lib.hid GE
      clear hv3 GS GC GU GD GW GE
      have kS0 : v3.cell? ⟨w.heap.size, 0, none⟩ = some (.int .i64 (s 0)) := HS.out.cell 0
      have kS1 : v3.cell? ⟨w.heap.size, 1, none⟩ = some (.int .i64 (s 1)) := HS.out.cell 1
      have kS2 : v3.cell? ⟨w.heap.size, 2, none⟩ = some (.int .i64 (s 2)) := HS.out.cell 2
      have kS3 : v3.cell? ⟨w.heap.size, 3, none⟩ = some (.int .i64 (s 3)) := HS.out.cell 3
      have kS4 : v3.cell? ⟨w.heap.size, 4, none⟩ = some (.int .i64 (s 4)) := HS.out.cell 4
      have kS5 : v3.cell? ⟨w.heap.size, 5, none⟩ = some (.int .i64 (s 5)) := HS.out.cell 5
      have kS6 : v3.cell? ⟨w.heap.size, 6, none⟩ = some (.int .i64 (s 6)) := HS.out.cell 6
      have kS7 : v3.cell? ⟨w.heap.size, 7, none⟩ = some (.int .i64 (s 7)) := HS.out.cell 7
      have kS8 : v3.cell? ⟨w.heap.size, 8, none⟩ = some (.slice SA sn sc) := HS.out.cell 8
      have kS9 : v3.cell? ⟨w.heap.size, 9, none⟩ = some (.int .i64 (s 9)) := HS.out.cell 9
      have kS10 : v3.cell? ⟨w.heap.size, 10, none⟩ = some (.int .i64 (s 10)) := HS.out.cell 10
      have kS11 : v3.cell? ⟨w.heap.size, 11, none⟩ = some (.int .i64 (s 11)) := HS.out.cell 11
      have kS12 : v3.cell? ⟨w.heap.size, 12, none⟩ = some (.int .i64 (s 12)) := HS.out.cell 12
      have kC0 : v3.cell? ⟨w.heap.size + 1, 0, none⟩ = some (.int .i64 p) := HC.out.cell 0
      have kC1 : v3.cell? ⟨w.heap.size + 1, 1, none⟩ = some (.int .i64 0) := HC.out.cell 1
      have kC2 : v3.cell? ⟨w.heap.size + 1, 2, none⟩ = some (.int .i64 md) := HC.out.cell 2
      have kC3 : v3.cell? ⟨w.heap.size + 1, 3, none⟩ = some (.int .i64 le) := HC.out.cell 3
      have kC4 : v3.cell? ⟨w.heap.size + 1, 4, none⟩ = some (.bool wa) := HC.out.cell 4
      have kC5 : v3.cell? ⟨w.heap.size + 1, 5, none⟩ = some (.slice A n c) := HC.out.cell 5
      have kU0 : v3.cell? ⟨w.heap.size + 1 + 1, 0, none⟩ = some (.int .u64 a0) := HU.out.cell 0
      have kU1 : v3.cell? ⟨w.heap.size + 1 + 1, 1, none⟩ = some (.int .u64 a1) := HU.out.cell 1
      have kD0 : v3.cell? ⟨w.heap.size + 1 + 1 + 1, 0, none⟩ = some (.int .u64 b0) := HD.out.cell 0
      have kD1 : v3.cell? ⟨w.heap.size + 1 + 1 + 1, 1, none⟩ = some (.int .u64 b1) := HD.out.cell 1
      have kW0 : v3.cell? ⟨gw, 0, none⟩ = some (.int .u64 t0) := HW.out.cell 0
      have kW1 : v3.cell? ⟨gw, 1, none⟩ = some (.int .u64 t1) := HW.out.cell 1
      have kW2 : v3.cell? ⟨gw, 2, none⟩ = some (.int .u64 u0) := HW.out.cell 2
      have kW3 : v3.cell? ⟨gw, 3, none⟩ = some (.int .u64 u1) := HW.out.cell 3
      have kW4 : v3.cell? ⟨gw, 4, none⟩ = some (.int .u64 l0) := HW.out.cell 4
      have kW5 : v3.cell? ⟨gw, 5, none⟩ = some (.int .u64 l1) := HW.out.cell 5
      refine (ST.out _ (HRd.out.kept EE.out)).mono ?_
      rintro e v4 ⟨rfl, hb⟩
      clear kS0 kS1 kS2 kS3 kS4 kS5 kS6 kS7 kS8 kS9 kS10 kS11 kS12 kC0 kC1 kC2 kC3 kC4 kC5 kU0 kU1 kD0 kD1 kW0 kW1 kW2 kW3 kW4 kW5
      have HS := Lib.hid (Blk.next (w := v3) HS.out hb)
      have HC := Lib.hid (Blk.next (w := v3) HC.out hb)
      have HU := Lib.hid (Blk.next (w := v3) HU.out hb)
      have HD := Lib.hid (Blk.next (w := v3) HD.out hb)
      have HW := Lib.hid (Blk.next (w := v3) HW.out hb)
      have EE := Lib.hid (EE.out.trans (hb.mono EE.out.size))
      clear hb
      have kS0 : v4.cell? ⟨w.heap.size, 0, none⟩ = some (.int .i64 (s 0)) := HS.out.cell 0
      have kS1 : v4.cell? ⟨w.heap.size, 1, none⟩ = some (.int .i64 (s 1)) := HS.out.cell 1
      have kS2 : v4.cell? ⟨w.heap.size, 2, none⟩ = some (.int .i64 (s 2)) := HS.out.cell 2
      have kS3 : v4.cell? ⟨w.heap.size, 3, none⟩ = some (.int .i64 (s 3)) := HS.out.cell 3
      have kS4 : v4.cell? ⟨w.heap.size, 4, none⟩ = some (.int .i64 (s 4)) := HS.out.cell 4
      have kS5 : v4.cell? ⟨w.heap.size, 5, none⟩ = some (.int .i64 (s 5)) := HS.out.cell 5
      have kS6 : v4.cell? ⟨w.heap.size, 6, none⟩ = some (.int .i64 (s 6)) := HS.out.cell 6
      have kS7 : v4.cell? ⟨w.heap.size, 7, none⟩ = some (.int .i64 (s 7)) := HS.out.cell 7
      have kS8 : v4.cell? ⟨w.heap.size, 8, none⟩ = some (.slice SA sn sc) := HS.out.cell 8
      have kS9 : v4.cell? ⟨w.heap.size, 9, none⟩ = some (.int .i64 (s 9)) := HS.out.cell 9
      have kS10 : v4.cell? ⟨w.heap.size, 10, none⟩ = some (.int .i64 (s 10)) := HS.out.cell 10
      have kS11 : v4.cell? ⟨w.heap.size, 11, none⟩ = some (.int .i64 (s 11)) := HS.out.cell 11
      have kS12 : v4.cell? ⟨w.heap.size, 12, none⟩ = some (.int .i64 (s 12)) := HS.out.cell 12
      have kC0 : v4.cell? ⟨w.heap.size + 1, 0, none⟩ = some (.int .i64 p) := HC.out.cell 0
      have kC1 : v4.cell? ⟨w.heap.size + 1, 1, none⟩ = some (.int .i64 0) := HC.out.cell 1
      have kC2 : v4.cell? ⟨w.heap.size + 1, 2, none⟩ = some (.int .i64 md) := HC.out.cell 2
      have kC3 : v4.cell? ⟨w.heap.size + 1, 3, none⟩ = some (.int .i64 le) := HC.out.cell 3
      have kC4 : v4.cell? ⟨w.heap.size + 1, 4, none⟩ = some (.bool wa) := HC.out.cell 4
      have kC5 : v4.cell? ⟨w.heap.size + 1, 5, none⟩ = some (.slice A n c) := HC.out.cell 5
      have kU0 : v4.cell? ⟨w.heap.size + 1 + 1, 0, none⟩ = some (.int .u64 a0) := HU.out.cell 0
      have kU1 : v4.cell? ⟨w.heap.size + 1 + 1, 1, none⟩ = some (.int .u64 a1) := HU.out.cell 1
      have kD0 : v4.cell? ⟨w.heap.size + 1 + 1 + 1, 0, none⟩ = some (.int .u64 b0) := HD.out.cell 0
      have kD1 : v4.cell? ⟨w.heap.size + 1 + 1 + 1, 1, none⟩ = some (.int .u64 b1) := HD.out.cell 1
      have kW0 : v4.cell? ⟨gw, 0, none⟩ = some (.int .u64 t0) := HW.out.cell 0
      have kW1 : v4.cell? ⟨gw, 1, none⟩ = some (.int .u64 t1) := HW.out.cell 1
      have kW2 : v4.cell? ⟨gw, 2, none⟩ = some (.int .u64 u0) := HW.out.cell 2
      have kW3 : v4.cell? ⟨gw, 3, none⟩ = some (.int .u64 u1) := HW.out.cell 3
      have kW4 : v4.cell? ⟨gw, 4, none⟩ = some (.int .u64 l0) := HW.out.cell 4
      have kW5 : v4.cell? ⟨gw, 5, none⟩ = some (.int .u64 l1) := HW.out.cell 5
      go_wp2_with fail
      go_ret
      exact ⟨by first | rfl | (simp; done), EE.out⟩
  · have hdz : (d == 0) = false := by rw [beq_eq_false_iff_ne]; exact h7
    go_enter Try.func31, Try.ntmps31
    go_wp2_with fail
    have BS := (((Blk.new w #[.int .i64 (s 0), .int .i64 (s 1), .int .i64 (s 2), .int .i64 (s 3), .int .i64 (s 4), .int .i64 (s 5), .int .i64 (s 6), .int .i64 (s 7), .slice SA sn sc, .int .i64 (s 9), .int .i64 (s 10), .int .i64 (s 11), .int .i64 (s 12)] 25).alloc (.cells #[.int .i64 p, .int .i64 d, .int .i64 md, .int .i64 le, .bool wa, .slice A n c] 29)).alloc (.cells #[.int .u64 a0, .int .u64 a1] 32)).alloc (.cells #[.int .u64 b0, .int .u64 b1] 32)
    have BC := ((Blk.new (w.alloc (.cells #[.int .i64 (s 0), .int .i64 (s 1), .int .i64 (s 2), .int .i64 (s 3), .int .i64 (s 4), .int .i64 (s 5), .int .i64 (s 6), .int .i64 (s 7), .slice SA sn sc, .int .i64 (s 9), .int .i64 (s 10), .int .i64 (s 11), .int .i64 (s 12)] 25)) #[.int .i64 p, .int .i64 d, .int .i64 md, .int .i64 le, .bool wa, .slice A n c] 29).alloc (.cells #[.int .u64 a0, .int .u64 a1] 32)).alloc (.cells #[.int .u64 b0, .int .u64 b1] 32)
    rw [World.size_alloc] at BC
    have BU := (Blk.new ((w.alloc (.cells #[.int .i64 (s 0), .int .i64 (s 1), .int .i64 (s 2), .int .i64 (s 3), .int .i64 (s 4), .int .i64 (s 5), .int .i64 (s 6), .int .i64 (s 7), .slice SA sn sc, .int .i64 (s 9), .int .i64 (s 10), .int .i64 (s 11), .int .i64 (s 12)] 25)).alloc (.cells #[.int .i64 p, .int .i64 d, .int .i64 md, .int .i64 le, .bool wa, .slice A n c] 29)) #[.int .u64 a0, .int .u64 a1] 32).alloc (.cells #[.int .u64 b0, .int .u64 b1] 32)
    rw [World.size_alloc, World.size_alloc] at BU
    have BD := Blk.new (((w.alloc (.cells #[.int .i64 (s 0), .int .i64 (s 1), .int .i64 (s 2), .int .i64 (s 3), .int .i64 (s 4), .int .i64 (s 5), .int .i64 (s 6), .int .i64 (s 7), .slice SA sn sc, .int .i64 (s 9), .int .i64 (s 10), .int .i64 (s 11), .int .i64 (s 12)] 25)).alloc (.cells #[.int .i64 p, .int .i64 d, .int .i64 md, .int .i64 le, .bool wa, .slice A n c] 29)).alloc (.cells #[.int .u64 a0, .int .u64 a1] 32)) #[.int .u64 b0, .int .u64 b1] 32
    rw [World.size_alloc, World.size_alloc, World.size_alloc] at BD
    have BE : Below w.heap.size w ((((w.alloc (.cells #[.int .i64 (s 0), .int .i64 (s 1), .int .i64 (s 2), .int .i64 (s 3), .int .i64 (s 4), .int .i64 (s 5), .int .i64 (s 6), .int .i64 (s 7), .slice SA sn sc, .int .i64 (s 9), .int .i64 (s 10), .int .i64 (s 11), .int .i64 (s 12)] 25)).alloc (.cells #[.int .i64 p, .int .i64 d, .int .i64 md, .int .i64 le, .bool wa, .slice A n c] 29)).alloc (.cells #[.int .u64 a0, .int .u64 a1] 32)).alloc (.cells #[.int .u64 b0, .int .u64 b1] 32)) := ((((Below.refl w.heap.size w).alloc (Nat.le_refl _) _).alloc (by simp <;> omega) _).alloc (by simp <;> omega) _).alloc (by simp <;> omega) _
    obtain ⟨V0, hV0⟩ : ∃ V, ((((w.alloc (.cells #[.int .i64 (s 0), .int .i64 (s 1), .int .i64 (s 2), .int .i64 (s 3), .int .i64 (s 4), .int .i64 (s 5), .int .i64 (s 6), .int .i64 (s 7), .slice SA sn sc, .int .i64 (s 9), .int .i64 (s 10), .int .i64 (s 11), .int .i64 (s 12)] 25)).alloc (.cells #[.int .i64 p, .int .i64 d, .int .i64 md, .int .i64 le, .bool wa, .slice A n c] 29)).alloc (.cells #[.int .u64 a0, .int .u64 a1] 32)).alloc (.cells #[.int .u64 b0, .int .u64 b1] 32)) = V := ⟨_, rfl⟩
    rw [hV0] at BS BC BU BD BE ⊢
    have HS := Lib.hid BS
    have HC := Lib.hid BC
    have HU := Lib.hid BU
    have HD := Lib.hid BD
    have EE := Lib.hid BE
    have ne0_1 : w.heap.size ≠ w.heap.size + 1 := by omega
    have ne0_2 : w.heap.size ≠ w.heap.size + 1 + 1 := by omega
    have ne0_3 : w.heap.size ≠ w.heap.size + 1 + 1 + 1 := by omega
    have ne1_0 : w.heap.size + 1 ≠ w.heap.size := by omega
    have ne1_2 : w.heap.size + 1 ≠ w.heap.size + 1 + 1 := by omega
    have ne1_3 : w.heap.size + 1 ≠ w.heap.size + 1 + 1 + 1 := by omega
    have ne2_0 : w.heap.size + 1 + 1 ≠ w.heap.size := by omega
    have ne2_1 : w.heap.size + 1 + 1 ≠ w.heap.size + 1 := by omega
    have ne2_3 : w.heap.size + 1 + 1 ≠ w.heap.size + 1 + 1 + 1 := by omega
    have ne3_0 : w.heap.size + 1 + 1 + 1 ≠ w.heap.size := by omega
    have ne3_1 : w.heap.size + 1 + 1 + 1 ≠ w.heap.size + 1 := by omega
    have ne3_2 : w.heap.size + 1 + 1 + 1 ≠ w.heap.size + 1 + 1 := by omega
    clear hV0 BE BS BC BU BD
    have kS0 : V0.cell? ⟨w.heap.size, 0, none⟩ = some (.int .i64 (s 0)) := HS.out.cell 0
    have kS1 : V0.cell? ⟨w.heap.size, 1, none⟩ = some (.int .i64 (s 1)) := HS.out.cell 1
    have kS2 : V0.cell? ⟨w.heap.size, 2, none⟩ = some (.int .i64 (s 2)) := HS.out.cell 2
    have kS3 : V0.cell? ⟨w.heap.size, 3, none⟩ = some (.int .i64 (s 3)) := HS.out.cell 3
    have kS4 : V0.cell? ⟨w.heap.size, 4, none⟩ = some (.int .i64 (s 4)) := HS.out.cell 4
    have kS5 : V0.cell? ⟨w.heap.size, 5, none⟩ = some (.int .i64 (s 5)) := HS.out.cell 5
    have kS6 : V0.cell? ⟨w.heap.size, 6, none⟩ = some (.int .i64 (s 6)) := HS.out.cell 6
    have kS7 : V0.cell? ⟨w.heap.size, 7, none⟩ = some (.int .i64 (s 7)) := HS.out.cell 7
    have kS8 : V0.cell? ⟨w.heap.size, 8, none⟩ = some (.slice SA sn sc) := HS.out.cell 8
    have kS9 : V0.cell? ⟨w.heap.size, 9, none⟩ = some (.int .i64 (s 9)) := HS.out.cell 9
    have kS10 : V0.cell? ⟨w.heap.size, 10, none⟩ = some (.int .i64 (s 10)) := HS.out.cell 10
    have kS11 : V0.cell? ⟨w.heap.size, 11, none⟩ = some (.int .i64 (s 11)) := HS.out.cell 11
    have kS12 : V0.cell? ⟨w.heap.size, 12, none⟩ = some (.int .i64 (s 12)) := HS.out.cell 12
    have kC0 : V0.cell? ⟨w.heap.size + 1, 0, none⟩ = some (.int .i64 p) := HC.out.cell 0
    have kC1 : V0.cell? ⟨w.heap.size + 1, 1, none⟩ = some (.int .i64 d) := HC.out.cell 1
    have kC2 : V0.cell? ⟨w.heap.size + 1, 2, none⟩ = some (.int .i64 md) := HC.out.cell 2
    have kC3 : V0.cell? ⟨w.heap.size + 1, 3, none⟩ = some (.int .i64 le) := HC.out.cell 3
    have kC4 : V0.cell? ⟨w.heap.size + 1, 4, none⟩ = some (.bool wa) := HC.out.cell 4
    have kC5 : V0.cell? ⟨w.heap.size + 1, 5, none⟩ = some (.slice A n c) := HC.out.cell 5
    have kU0 : V0.cell? ⟨w.heap.size + 1 + 1, 0, none⟩ = some (.int .u64 a0) := HU.out.cell 0
    have kU1 : V0.cell? ⟨w.heap.size + 1 + 1, 1, none⟩ = some (.int .u64 a1) := HU.out.cell 1
    have kD0 : V0.cell? ⟨w.heap.size + 1 + 1 + 1, 0, none⟩ = some (.int .u64 b0) := HD.out.cell 0
    have kD1 : V0.cell? ⟨w.heap.size + 1 + 1 + 1, 1, none⟩ = some (.int .u64 b1) := HD.out.cell 1
    refine (FL.out _).mono ?_
    rintro e v1 ⟨rfl, kk, hk⟩
    have hb : Below V0.heap.size V0 v1 := by rw [hk]; exact below_drewN (Below.refl _ _) kk
    clear hk
    clear kS0 kS1 kS2 kS3 kS4 kS5 kS6 kS7 kS8 kS9 kS10 kS11 kS12 kC0 kC1 kC2 kC3 kC4 kC5 kU0 kU1 kD0 kD1
    have HS := Lib.hid (Blk.next (w := V0) HS.out hb)
    have HC := Lib.hid (Blk.next (w := V0) HC.out hb)
    have HU := Lib.hid (Blk.next (w := V0) HU.out hb)
    have HD := Lib.hid (Blk.next (w := V0) HD.out hb)
    have EE := Lib.hid (EE.out.trans (hb.mono EE.out.size))
    clear hb
    have kS0 : v1.cell? ⟨w.heap.size, 0, none⟩ = some (.int .i64 (s 0)) := HS.out.cell 0
    have kS1 : v1.cell? ⟨w.heap.size, 1, none⟩ = some (.int .i64 (s 1)) := HS.out.cell 1
    have kS2 : v1.cell? ⟨w.heap.size, 2, none⟩ = some (.int .i64 (s 2)) := HS.out.cell 2
    have kS3 : v1.cell? ⟨w.heap.size, 3, none⟩ = some (.int .i64 (s 3)) := HS.out.cell 3
    have kS4 : v1.cell? ⟨w.heap.size, 4, none⟩ = some (.int .i64 (s 4)) := HS.out.cell 4
    have kS5 : v1.cell? ⟨w.heap.size, 5, none⟩ = some (.int .i64 (s 5)) := HS.out.cell 5
    have kS6 : v1.cell? ⟨w.heap.size, 6, none⟩ = some (.int .i64 (s 6)) := HS.out.cell 6
    have kS7 : v1.cell? ⟨w.heap.size, 7, none⟩ = some (.int .i64 (s 7)) := HS.out.cell 7
    have kS8 : v1.cell? ⟨w.heap.size, 8, none⟩ = some (.slice SA sn sc) := HS.out.cell 8
    have kS9 : v1.cell? ⟨w.heap.size, 9, none⟩ = some (.int .i64 (s 9)) := HS.out.cell 9
    have kS10 : v1.cell? ⟨w.heap.size, 10, none⟩ = some (.int .i64 (s 10)) := HS.out.cell 10
    have kS11 : v1.cell? ⟨w.heap.size, 11, none⟩ = some (.int .i64 (s 11)) := HS.out.cell 11
    have kS12 : v1.cell? ⟨w.heap.size, 12, none⟩ = some (.int .i64 (s 12)) := HS.out.cell 12
    have kC0 : v1.cell? ⟨w.heap.size + 1, 0, none⟩ = some (.int .i64 p) := HC.out.cell 0
    have kC1 : v1.cell? ⟨w.heap.size + 1, 1, none⟩ = some (.int .i64 d) := HC.out.cell 1
    have kC2 : v1.cell? ⟨w.heap.size + 1, 2, none⟩ = some (.int .i64 md) := HC.out.cell 2
    have kC3 : v1.cell? ⟨w.heap.size + 1, 3, none⟩ = some (.int .i64 le) := HC.out.cell 3
    have kC4 : v1.cell? ⟨w.heap.size + 1, 4, none⟩ = some (.bool wa) := HC.out.cell 4
    have kC5 : v1.cell? ⟨w.heap.size + 1, 5, none⟩ = some (.slice A n c) := HC.out.cell 5
    have kU0 : v1.cell? ⟨w.heap.size + 1 + 1, 0, none⟩ = some (.int .u64 a0) := HU.out.cell 0
    have kU1 : v1.cell? ⟨w.heap.size + 1 + 1, 1, none⟩ = some (.int .u64 a1) := HU.out.cell 1
    have kD0 : v1.cell? ⟨w.heap.size + 1 + 1 + 1, 0, none⟩ = some (.int .u64 b0) := HD.out.cell 0
    have kD1 : v1.cell? ⟨w.heap.size + 1 + 1 + 1, 1, none⟩ = some (.int .u64 b1) := HD.out.cell 1
    go_wp2_with fail
    refine (SE.out _ (HRd.out.kept EE.out)).mono ?_
    rintro e v2 ⟨rfl, hb⟩
    clear kS0 kS1 kS2 kS3 kS4 kS5 kS6 kS7 kS8 kS9 kS10 kS11 kS12 kC0 kC1 kC2 kC3 kC4 kC5 kU0 kU1 kD0 kD1
    have HS := Lib.hid (Blk.next (w := v1) HS.out hb)
    have HC := Lib.hid (Blk.next (w := v1) HC.out hb)
    have HU := Lib.hid (Blk.next (w := v1) HU.out hb)
    have HD := Lib.hid (Blk.next (w := v1) HD.out hb)
    have EE := Lib.hid (EE.out.trans (hb.mono EE.out.size))
    clear hb
    have kS0 : v2.cell? ⟨w.heap.size, 0, none⟩ = some (.int .i64 (s 0)) := HS.out.cell 0
    have kS1 : v2.cell? ⟨w.heap.size, 1, none⟩ = some (.int .i64 (s 1)) := HS.out.cell 1
    have kS2 : v2.cell? ⟨w.heap.size, 2, none⟩ = some (.int .i64 (s 2)) := HS.out.cell 2
    have kS3 : v2.cell? ⟨w.heap.size, 3, none⟩ = some (.int .i64 (s 3)) := HS.out.cell 3
    have kS4 : v2.cell? ⟨w.heap.size, 4, none⟩ = some (.int .i64 (s 4)) := HS.out.cell 4
    have kS5 : v2.cell? ⟨w.heap.size, 5, none⟩ = some (.int .i64 (s 5)) := HS.out.cell 5
    have kS6 : v2.cell? ⟨w.heap.size, 6, none⟩ = some (.int .i64 (s 6)) := HS.out.cell 6
    have kS7 : v2.cell? ⟨w.heap.size, 7, none⟩ = some (.int .i64 (s 7)) := HS.out.cell 7
    have kS8 : v2.cell? ⟨w.heap.size, 8, none⟩ = some (.slice SA sn sc) := HS.out.cell 8
    have kS9 : v2.cell? ⟨w.heap.size, 9, none⟩ = some (.int .i64 (s 9)) := HS.out.cell 9
    have kS10 : v2.cell? ⟨w.heap.size, 10, none⟩ = some (.int .i64 (s 10)) := HS.out.cell 10
    have kS11 : v2.cell? ⟨w.heap.size, 11, none⟩ = some (.int .i64 (s 11)) := HS.out.cell 11
    have kS12 : v2.cell? ⟨w.heap.size, 12, none⟩ = some (.int .i64 (s 12)) := HS.out.cell 12
    have kC0 : v2.cell? ⟨w.heap.size + 1, 0, none⟩ = some (.int .i64 p) := HC.out.cell 0
    have kC1 : v2.cell? ⟨w.heap.size + 1, 1, none⟩ = some (.int .i64 d) := HC.out.cell 1
    have kC2 : v2.cell? ⟨w.heap.size + 1, 2, none⟩ = some (.int .i64 md) := HC.out.cell 2
    have kC3 : v2.cell? ⟨w.heap.size + 1, 3, none⟩ = some (.int .i64 le) := HC.out.cell 3
    have kC4 : v2.cell? ⟨w.heap.size + 1, 4, none⟩ = some (.bool wa) := HC.out.cell 4
    have kC5 : v2.cell? ⟨w.heap.size + 1, 5, none⟩ = some (.slice A n c) := HC.out.cell 5
    have kU0 : v2.cell? ⟨w.heap.size + 1 + 1, 0, none⟩ = some (.int .u64 a0) := HU.out.cell 0
    have kU1 : v2.cell? ⟨w.heap.size + 1 + 1, 1, none⟩ = some (.int .u64 a1) := HU.out.cell 1
    have kD0 : v2.cell? ⟨w.heap.size + 1 + 1 + 1, 0, none⟩ = some (.int .u64 b0) := HD.out.cell 0
    have kD1 : v2.cell? ⟨w.heap.size + 1 + 1 + 1, 1, none⟩ = some (.int .u64 b1) := HD.out.cell 1
    have lS := HS.out.lt
    have lC := HC.out.lt
    have lU := HU.out.lt
    have lD := HD.out.lt
    go_wp2_with fail
    go_ret
    exact ⟨by first | rfl | (simp [hdz]; done), EE.out.alloc EE.out.size _⟩
set_option maxRecDepth 100000 in
set_option maxHeartbeats 1000000 in
theorem qnext_door (s : Nat → Int) (SA : Option Addr) (sn sc : Nat) (p d md le : Int) (wa : Bool) (A : Option Addr) (n c : Nat) (U D : Nat → Bool) (w : World) (hm : md = 2 ∨ md = 3 ∨ md = 4) :
    Calls Try.prog 15 #[scnV s SA sn sc, carV p d md le wa A n c, setV U, setV D] w fun e w' => e = .returned (.tuple #[.int .i64 le, .bool true]) ∧ Below w.heap.size w w' := by
  unfold scnV carV setV
  obtain ⟨a0, ha0⟩ : ∃ x, wordX U = x := ⟨_, rfl⟩
  obtain ⟨a1, ha1⟩ : ∃ x, wordY U = x := ⟨_, rfl⟩
  obtain ⟨b0, hb0⟩ : ∃ x, wordX D = x := ⟨_, rfl⟩
  obtain ⟨b1, hb1⟩ : ∃ x, wordY D = x := ⟨_, rfl⟩
  rw [ha0, ha1, hb0, hb1]
  clear ha0 ha1 hb0 hb1
  rcases hm with rfl | rfl | rfl
  all_goals (
    go_enter Try.func15, Try.ntmps15
    go_wp2_with fail
    go_ret2
    exact ⟨rfl, ((((Below.refl w.heap.size w).alloc (Nat.le_refl _) _).alloc (by simp <;> omega) _).alloc (by simp <;> omega) _).alloc (by simp <;> omega) _⟩)
/-- how far a car goes on -/
def NxR (s1 top : Int) (P : Int → Bool) (p d : Int) (w : World) (e : Ending) (w' : World) : Prop := ∃ (N : Nat) (F : Int), e = .returned (.tuple #[.int .i64 (N + 1), .bool true]) ∧ p + N * d = F * s1 ∧ (0 ≤ F ∧ F ≤ top) ∧ N ≤ 2100 ∧ FirstAt s1 P p d N ∧ Below w.heap.size w w'
set_option maxRecDepth 100000 in
set_option maxHeartbeats 1000000 in
theorem qnext_go (s : Nat → Int) (SA : Option Addr) (sn sc : Nat) (p d le : Int) (wa : Bool) (A : Option Addr) (n c : Nat) (z : Nat → Nat → Int) (U D : Nat → Bool) (q r : Int) (w : World) (hr : RdZ w 2 A n z) (hl : n ≤ 1000) (hg : 1 ≤ s 1) (g1 : s 1 ≤ 16) (h0 : 2 ≤ s 0) (h0' : s 0 ≤ 128) (hp : 0 ≤ p) (hp' : p ≤ (s 0 - 1) * s 1) (r0 : 0 ≤ r) (r1 : r < s 1) (e : p = q * s 1 + r) (hd : d = 1 ∨ d = -1)
    (hP : ∀ f, 0 ≤ f → f ≤ s 0 - 1 → passB (rdF z n) (waF z n (s 3) U D) (laF n (s 3) U) (laF n (s 3) D) d f = true → 0 ≤ f + d ∧ f + d ≤ s 0 - 1) :
    Calls Try.prog 15 #[scnV s SA sn sc, carV p d 1 le wa A n c, setV U, setV D] w (NxR (s 1) (s 0 - 1) (passB (rdF z n) (waF z n (s 3) U D) (laF n (s 3) U) (laF n (s 3) D) d) p d w) := by
  have MA := fun w hr => mahead_any s SA sn sc p d 1 le wa A n c z U D q r w hr hl hg g1 h0 h0' hp hp' r0 r1 e hd hP
  have HRd := Lib.hid hr
  unfold scnV carV setV at *
  obtain ⟨a0, ha0⟩ : ∃ x, wordX U = x := ⟨_, rfl⟩
  obtain ⟨a1, ha1⟩ : ∃ x, wordY U = x := ⟨_, rfl⟩
  obtain ⟨b0, hb0⟩ : ∃ x, wordX D = x := ⟨_, rfl⟩
  obtain ⟨b1, hb1⟩ : ∃ x, wordY D = x := ⟨_, rfl⟩
  simp only [ha0, ha1, hb0, hb1] at MA ⊢
  replace MA := Lib.hid MA
  clear ha0 ha1 hb0 hb1 hr hP e hd hp hp' r0 r1 hg g1 h0 h0'
  go_enter Try.func15, Try.ntmps15
  go_wp2_with fail
  have BS := (((Blk.new w #[.int .i64 (s 0), .int .i64 (s 1), .int .i64 (s 2), .int .i64 (s 3), .int .i64 (s 4), .int .i64 (s 5), .int .i64 (s 6), .int .i64 (s 7), .slice SA sn sc, .int .i64 (s 9), .int .i64 (s 10), .int .i64 (s 11), .int .i64 (s 12)] 25).alloc (.cells #[.int .i64 p, .int .i64 d, .int .i64 1, .int .i64 le, .bool wa, .slice A n c] 29)).alloc (.cells #[.int .u64 a0, .int .u64 a1] 32)).alloc (.cells #[.int .u64 b0, .int .u64 b1] 32)
  have BC := ((Blk.new (w.alloc (.cells #[.int .i64 (s 0), .int .i64 (s 1), .int .i64 (s 2), .int .i64 (s 3), .int .i64 (s 4), .int .i64 (s 5), .int .i64 (s 6), .int .i64 (s 7), .slice SA sn sc, .int .i64 (s 9), .int .i64 (s 10), .int .i64 (s 11), .int .i64 (s 12)] 25)) #[.int .i64 p, .int .i64 d, .int .i64 1, .int .i64 le, .bool wa, .slice A n c] 29).alloc (.cells #[.int .u64 a0, .int .u64 a1] 32)).alloc (.cells #[.int .u64 b0, .int .u64 b1] 32)
  rw [World.size_alloc] at BC
  have BU := (Blk.new ((w.alloc (.cells #[.int .i64 (s 0), .int .i64 (s 1), .int .i64 (s 2), .int .i64 (s 3), .int .i64 (s 4), .int .i64 (s 5), .int .i64 (s 6), .int .i64 (s 7), .slice SA sn sc, .int .i64 (s 9), .int .i64 (s 10), .int .i64 (s 11), .int .i64 (s 12)] 25)).alloc (.cells #[.int .i64 p, .int .i64 d, .int .i64 1, .int .i64 le, .bool wa, .slice A n c] 29)) #[.int .u64 a0, .int .u64 a1] 32).alloc (.cells #[.int .u64 b0, .int .u64 b1] 32)
  rw [World.size_alloc, World.size_alloc] at BU
  have BD := Blk.new (((w.alloc (.cells #[.int .i64 (s 0), .int .i64 (s 1), .int .i64 (s 2), .int .i64 (s 3), .int .i64 (s 4), .int .i64 (s 5), .int .i64 (s 6), .int .i64 (s 7), .slice SA sn sc, .int .i64 (s 9), .int .i64 (s 10), .int .i64 (s 11), .int .i64 (s 12)] 25)).alloc (.cells #[.int .i64 p, .int .i64 d, .int .i64 1, .int .i64 le, .bool wa, .slice A n c] 29)).alloc (.cells #[.int .u64 a0, .int .u64 a1] 32)) #[.int .u64 b0, .int .u64 b1] 32
  rw [World.size_alloc, World.size_alloc, World.size_alloc] at BD
  have BE : Below w.heap.size w ((((w.alloc (.cells #[.int .i64 (s 0), .int .i64 (s 1), .int .i64 (s 2), .int .i64 (s 3), .int .i64 (s 4), .int .i64 (s 5), .int .i64 (s 6), .int .i64 (s 7), .slice SA sn sc, .int .i64 (s 9), .int .i64 (s 10), .int .i64 (s 11), .int .i64 (s 12)] 25)).alloc (.cells #[.int .i64 p, .int .i64 d, .int .i64 1, .int .i64 le, .bool wa, .slice A n c] 29)).alloc (.cells #[.int .u64 a0, .int .u64 a1] 32)).alloc (.cells #[.int .u64 b0, .int .u64 b1] 32)) := ((((Below.refl w.heap.size w).alloc (Nat.le_refl _) _).alloc (by simp <;> omega) _).alloc (by simp <;> omega) _).alloc (by simp <;> omega) _
  obtain ⟨V0, hV0⟩ : ∃ V, ((((w.alloc (.cells #[.int .i64 (s 0), .int .i64 (s 1), .int .i64 (s 2), .int .i64 (s 3), .int .i64 (s 4), .int .i64 (s 5), .int .i64 (s 6), .int .i64 (s 7), .slice SA sn sc, .int .i64 (s 9), .int .i64 (s 10), .int .i64 (s 11), .int .i64 (s 12)] 25)).alloc (.cells #[.int .i64 p, .int .i64 d, .int .i64 1, .int .i64 le, .bool wa, .slice A n c] 29)).alloc (.cells #[.int .u64 a0, .int .u64 a1] 32)).alloc (.cells #[.int .u64 b0, .int .u64 b1] 32)) = V := ⟨_, rfl⟩
  rw [hV0] at BS BC BU BD BE ⊢
  have HS := Lib.hid BS
  have HC := Lib.hid BC
  have HU := Lib.hid BU
  have HD := Lib.hid BD
  have EE := Lib.hid BE
  have ne0_1 : w.heap.size ≠ w.heap.size + 1 := by omega
  have ne0_2 : w.heap.size ≠ w.heap.size + 1 + 1 := by omega
  have ne0_3 : w.heap.size ≠ w.heap.size + 1 + 1 + 1 := by omega
  have ne1_0 : w.heap.size + 1 ≠ w.heap.size := by omega
  have ne1_2 : w.heap.size + 1 ≠ w.heap.size + 1 + 1 := by omega
  have ne1_3 : w.heap.size + 1 ≠ w.heap.size + 1 + 1 + 1 := by omega
  have ne2_0 : w.heap.size + 1 + 1 ≠ w.heap.size := by omega
  have ne2_1 : w.heap.size + 1 + 1 ≠ w.heap.size + 1 := by omega
  have ne2_3 : w.heap.size + 1 + 1 ≠ w.heap.size + 1 + 1 + 1 := by omega
  have ne3_0 : w.heap.size + 1 + 1 + 1 ≠ w.heap.size := by omega
  have ne3_1 : w.heap.size + 1 + 1 + 1 ≠ w.heap.size + 1 := by omega
  have ne3_2 : w.heap.size + 1 + 1 + 1 ≠ w.heap.size + 1 + 1 := by omega
  clear hV0 BE BS BC BU BD
  have kS0 : V0.cell? ⟨w.heap.size, 0, none⟩ = some (.int .i64 (s 0)) := HS.out.cell 0
  have kS1 : V0.cell? ⟨w.heap.size, 1, none⟩ = some (.int .i64 (s 1)) := HS.out.cell 1
  have kS2 : V0.cell? ⟨w.heap.size, 2, none⟩ = some (.int .i64 (s 2)) := HS.out.cell 2
  have kS3 : V0.cell? ⟨w.heap.size, 3, none⟩ = some (.int .i64 (s 3)) := HS.out.cell 3
  have kS4 : V0.cell? ⟨w.heap.size, 4, none⟩ = some (.int .i64 (s 4)) := HS.out.cell 4
  have kS5 : V0.cell? ⟨w.heap.size, 5, none⟩ = some (.int .i64 (s 5)) := HS.out.cell 5
  have kS6 : V0.cell? ⟨w.heap.size, 6, none⟩ = some (.int .i64 (s 6)) := HS.out.cell 6
  have kS7 : V0.cell? ⟨w.heap.size, 7, none⟩ = some (.int .i64 (s 7)) := HS.out.cell 7
  have kS8 : V0.cell? ⟨w.heap.size, 8, none⟩ = some (.slice SA sn sc) := HS.out.cell 8
  have kS9 : V0.cell? ⟨w.heap.size, 9, none⟩ = some (.int .i64 (s 9)) := HS.out.cell 9
  have kS10 : V0.cell? ⟨w.heap.size, 10, none⟩ = some (.int .i64 (s 10)) := HS.out.cell 10
  have kS11 : V0.cell? ⟨w.heap.size, 11, none⟩ = some (.int .i64 (s 11)) := HS.out.cell 11
  have kS12 : V0.cell? ⟨w.heap.size, 12, none⟩ = some (.int .i64 (s 12)) := HS.out.cell 12
  have kC0 : V0.cell? ⟨w.heap.size + 1, 0, none⟩ = some (.int .i64 p) := HC.out.cell 0
  have kC1 : V0.cell? ⟨w.heap.size + 1, 1, none⟩ = some (.int .i64 d) := HC.out.cell 1
  have kC2 : V0.cell? ⟨w.heap.size + 1, 2, none⟩ = some (.int .i64 1) := HC.out.cell 2
  have kC3 : V0.cell? ⟨w.heap.size + 1, 3, none⟩ = some (.int .i64 le) := HC.out.cell 3
  have kC4 : V0.cell? ⟨w.heap.size + 1, 4, none⟩ = some (.bool wa) := HC.out.cell 4
  have kC5 : V0.cell? ⟨w.heap.size + 1, 5, none⟩ = some (.slice A n c) := HC.out.cell 5
  have kU0 : V0.cell? ⟨w.heap.size + 1 + 1, 0, none⟩ = some (.int .u64 a0) := HU.out.cell 0
  have kU1 : V0.cell? ⟨w.heap.size + 1 + 1, 1, none⟩ = some (.int .u64 a1) := HU.out.cell 1
  have kD0 : V0.cell? ⟨w.heap.size + 1 + 1 + 1, 0, none⟩ = some (.int .u64 b0) := HD.out.cell 0
  have kD1 : V0.cell? ⟨w.heap.size + 1 + 1 + 1, 1, none⟩ = some (.int .u64 b1) := HD.out.cell 1
  refine (MA.out _ (HRd.out.kept EE.out)).mono ?_
  rintro e v1 ⟨N, F, rfl, hpos, hF0, hN, FA, hb⟩
  have FF := Lib.hid (And.intro hpos (And.intro hF0 (And.intro hN FA)))
  clear hpos hF0 FA
  clear kS0 kS1 kS2 kS3 kS4 kS5 kS6 kS7 kS8 kS9 kS10 kS11 kS12 kC0 kC1 kC2 kC3 kC4 kC5 kU0 kU1 kD0 kD1
  have HS := Lib.hid (Blk.next (w := V0) HS.out hb)
  have HC := Lib.hid (Blk.next (w := V0) HC.out hb)
  have HU := Lib.hid (Blk.next (w := V0) HU.out hb)
  have HD := Lib.hid (Blk.next (w := V0) HD.out hb)
  have EE := Lib.hid (EE.out.trans (hb.mono EE.out.size))
  clear hb
  have kS0 : v1.cell? ⟨w.heap.size, 0, none⟩ = some (.int .i64 (s 0)) := HS.out.cell 0
  have kS1 : v1.cell? ⟨w.heap.size, 1, none⟩ = some (.int .i64 (s 1)) := HS.out.cell 1
  have kS2 : v1.cell? ⟨w.heap.size, 2, none⟩ = some (.int .i64 (s 2)) := HS.out.cell 2
  have kS3 : v1.cell? ⟨w.heap.size, 3, none⟩ = some (.int .i64 (s 3)) := HS.out.cell 3
  have kS4 : v1.cell? ⟨w.heap.size, 4, none⟩ = some (.int .i64 (s 4)) := HS.out.cell 4
  have kS5 : v1.cell? ⟨w.heap.size, 5, none⟩ = some (.int .i64 (s 5)) := HS.out.cell 5
  have kS6 : v1.cell? ⟨w.heap.size, 6, none⟩ = some (.int .i64 (s 6)) := HS.out.cell 6
  have kS7 : v1.cell? ⟨w.heap.size, 7, none⟩ = some (.int .i64 (s 7)) := HS.out.cell 7
  have kS8 : v1.cell? ⟨w.heap.size, 8, none⟩ = some (.slice SA sn sc) := HS.out.cell 8
  have kS9 : v1.cell? ⟨w.heap.size, 9, none⟩ = some (.int .i64 (s 9)) := HS.out.cell 9
  have kS10 : v1.cell? ⟨w.heap.size, 10, none⟩ = some (.int .i64 (s 10)) := HS.out.cell 10
  have kS11 : v1.cell? ⟨w.heap.size, 11, none⟩ = some (.int .i64 (s 11)) := HS.out.cell 11
  have kS12 : v1.cell? ⟨w.heap.size, 12, none⟩ = some (.int .i64 (s 12)) := HS.out.cell 12
  have kC0 : v1.cell? ⟨w.heap.size + 1, 0, none⟩ = some (.int .i64 p) := HC.out.cell 0
  have kC1 : v1.cell? ⟨w.heap.size + 1, 1, none⟩ = some (.int .i64 d) := HC.out.cell 1
  have kC2 : v1.cell? ⟨w.heap.size + 1, 2, none⟩ = some (.int .i64 1) := HC.out.cell 2
  have kC3 : v1.cell? ⟨w.heap.size + 1, 3, none⟩ = some (.int .i64 le) := HC.out.cell 3
  have kC4 : v1.cell? ⟨w.heap.size + 1, 4, none⟩ = some (.bool wa) := HC.out.cell 4
  have kC5 : v1.cell? ⟨w.heap.size + 1, 5, none⟩ = some (.slice A n c) := HC.out.cell 5
  have kU0 : v1.cell? ⟨w.heap.size + 1 + 1, 0, none⟩ = some (.int .u64 a0) := HU.out.cell 0
  have kU1 : v1.cell? ⟨w.heap.size + 1 + 1, 1, none⟩ = some (.int .u64 a1) := HU.out.cell 1
  have kD0 : v1.cell? ⟨w.heap.size + 1 + 1 + 1, 0, none⟩ = some (.int .u64 b0) := HD.out.cell 0
  have kD1 : v1.cell? ⟨w.heap.size + 1 + 1 + 1, 1, none⟩ = some (.int .u64 b1) := HD.out.cell 1
  go_wp2_with fail
  go_ret2
  exact ⟨N, F, rfl, FF.out.1, FF.out.2.1, FF.out.2.2.1, FF.out.2.2.2, EE.out⟩
set_option maxRecDepth 100000 in
set_option maxHeartbeats 1000000 in
theorem qnext_idle (s : Nat → Int) (SA : Option Addr) (sn sc : Nat) (p d le : Int) (wa : Bool) (A : Option Addr) (n c : Nat) (z : Nat → Nat → Int) (U D : Nat → Bool) (q r : Int) (w : World) (hr : RdZ w 2 A n z) (hl : n ≤ 1000) (hg : 1 ≤ s 1) (hp : 0 ≤ p) (hp' : p ≤ 1048576) (r0 : 0 ≤ r) (r1 : r < s 1) (e : p = q * s 1 + r) :
    Calls Try.prog 15 #[scnV s SA sn sc, carV p d 0 le wa A n c, setV U, setV D] w fun e w' => e = .returned (.tuple #[.int .i64 (if restB (rdF z n) (waF z n (s 3) U D) (laF n (s 3) U) (laF n (s 3) D) q d then 0 else 1), .bool (!restB (rdF z n) (waF z n (s 3) U D) (laF n (s 3) U) (laF n (s 3) D) q d)]) ∧ Below w.heap.size w w' := by
  have QR := fun w hr => qrests_any s SA sn sc p d 0 le wa A n c z U D q r w hr hl hg hp hp' r0 r1 e
  have HRd := Lib.hid hr
  obtain ⟨rb, hrb⟩ : ∃ b, restB (rdF z n) (waF z n (s 3) U D) (laF n (s 3) U) (laF n (s 3) D) q d = b := ⟨_, rfl⟩
  rw [hrb] at QR ⊢
  unfold scnV carV setV at *
  obtain ⟨a0, ha0⟩ : ∃ x, wordX U = x := ⟨_, rfl⟩
  obtain ⟨a1, ha1⟩ : ∃ x, wordY U = x := ⟨_, rfl⟩
  obtain ⟨b0, hb0⟩ : ∃ x, wordX D = x := ⟨_, rfl⟩
  obtain ⟨b1, hb1⟩ : ∃ x, wordY D = x := ⟨_, rfl⟩
  simp only [ha0, ha1, hb0, hb1] at QR ⊢
  replace QR := Lib.hid QR
  clear ha0 ha1 hb0 hb1 hrb hr e hp hp' r0 r1 hg
  cases rb
  · go_enter Try.func15, Try.ntmps15
    go_wp2_with fail
    have BS := (((Blk.new w #[.int .i64 (s 0), .int .i64 (s 1), .int .i64 (s 2), .int .i64 (s 3), .int .i64 (s 4), .int .i64 (s 5), .int .i64 (s 6), .int .i64 (s 7), .slice SA sn sc, .int .i64 (s 9), .int .i64 (s 10), .int .i64 (s 11), .int .i64 (s 12)] 25).alloc (.cells #[.int .i64 p, .int .i64 d, .int .i64 0, .int .i64 le, .bool wa, .slice A n c] 29)).alloc (.cells #[.int .u64 a0, .int .u64 a1] 32)).alloc (.cells #[.int .u64 b0, .int .u64 b1] 32)
    have BC := ((Blk.new (w.alloc (.cells #[.int .i64 (s 0), .int .i64 (s 1), .int .i64 (s 2), .int .i64 (s 3), .int .i64 (s 4), .int .i64 (s 5), .int .i64 (s 6), .int .i64 (s 7), .slice SA sn sc, .int .i64 (s 9), .int .i64 (s 10), .int .i64 (s 11), .int .i64 (s 12)] 25)) #[.int .i64 p, .int .i64 d, .int .i64 0, .int .i64 le, .bool wa, .slice A n c] 29).alloc (.cells #[.int .u64 a0, .int .u64 a1] 32)).alloc (.cells #[.int .u64 b0, .int .u64 b1] 32)
    rw [World.size_alloc] at BC
    have BU := (Blk.new ((w.alloc (.cells #[.int .i64 (s 0), .int .i64 (s 1), .int .i64 (s 2), .int .i64 (s 3), .int .i64 (s 4), .int .i64 (s 5), .int .i64 (s 6), .int .i64 (s 7), .slice SA sn sc, .int .i64 (s 9), .int .i64 (s 10), .int .i64 (s 11), .int .i64 (s 12)] 25)).alloc (.cells #[.int .i64 p, .int .i64 d, .int .i64 0, .int .i64 le, .bool wa, .slice A n c] 29)) #[.int .u64 a0, .int .u64 a1] 32).alloc (.cells #[.int .u64 b0, .int .u64 b1] 32)
    rw [World.size_alloc, World.size_alloc] at BU
    have BD := Blk.new (((w.alloc (.cells #[.int .i64 (s 0), .int .i64 (s 1), .int .i64 (s 2), .int .i64 (s 3), .int .i64 (s 4), .int .i64 (s 5), .int .i64 (s 6), .int .i64 (s 7), .slice SA sn sc, .int .i64 (s 9), .int .i64 (s 10), .int .i64 (s 11), .int .i64 (s 12)] 25)).alloc (.cells #[.int .i64 p, .int .i64 d, .int .i64 0, .int .i64 le, .bool wa, .slice A n c] 29)).alloc (.cells #[.int .u64 a0, .int .u64 a1] 32)) #[.int .u64 b0, .int .u64 b1] 32
    rw [World.size_alloc, World.size_alloc, World.size_alloc] at BD
    have BE : Below w.heap.size w ((((w.alloc (.cells #[.int .i64 (s 0), .int .i64 (s 1), .int .i64 (s 2), .int .i64 (s 3), .int .i64 (s 4), .int .i64 (s 5), .int .i64 (s 6), .int .i64 (s 7), .slice SA sn sc, .int .i64 (s 9), .int .i64 (s 10), .int .i64 (s 11), .int .i64 (s 12)] 25)).alloc (.cells #[.int .i64 p, .int .i64 d, .int .i64 0, .int .i64 le, .bool wa, .slice A n c] 29)).alloc (.cells #[.int .u64 a0, .int .u64 a1] 32)).alloc (.cells #[.int .u64 b0, .int .u64 b1] 32)) := ((((Below.refl w.heap.size w).alloc (Nat.le_refl _) _).alloc (by simp <;> omega) _).alloc (by simp <;> omega) _).alloc (by simp <;> omega) _
    obtain ⟨V0, hV0⟩ : ∃ V, ((((w.alloc (.cells #[.int .i64 (s 0), .int .i64 (s 1), .int .i64 (s 2), .int .i64 (s 3), .int .i64 (s 4), .int .i64 (s 5), .int .i64 (s 6), .int .i64 (s 7), .slice SA sn sc, .int .i64 (s 9), .int .i64 (s 10), .int .i64 (s 11), .int .i64 (s 12)] 25)).alloc (.cells #[.int .i64 p, .int .i64 d, .int .i64 0, .int .i64 le, .bool wa, .slice A n c] 29)).alloc (.cells #[.int .u64 a0, .int .u64 a1] 32)).alloc (.cells #[.int .u64 b0, .int .u64 b1] 32)) = V := ⟨_, rfl⟩
    rw [hV0] at BS BC BU BD BE ⊢
    have HS := Lib.hid BS
    have HC := Lib.hid BC
    have HU := Lib.hid BU
    have HD := Lib.hid BD
    have EE := Lib.hid BE
    have ne0_1 : w.heap.size ≠ w.heap.size + 1 := by omega
    have ne0_2 : w.heap.size ≠ w.heap.size + 1 + 1 := by omega
    have ne0_3 : w.heap.size ≠ w.heap.size + 1 + 1 + 1 := by omega
    have ne1_0 : w.heap.size + 1 ≠ w.heap.size := by omega
    have ne1_2 : w.heap.size + 1 ≠ w.heap.size + 1 + 1 := by omega
    have ne1_3 : w.heap.size + 1 ≠ w.heap.size + 1 + 1 + 1 := by omega
    have ne2_0 : w.heap.size + 1 + 1 ≠ w.heap.size := by omega
    have ne2_1 : w.heap.size + 1 + 1 ≠ w.heap.size + 1 := by omega
    have ne2_3 : w.heap.size + 1 + 1 ≠ w.heap.size + 1 + 1 + 1 := by omega
    have ne3_0 : w.heap.size + 1 + 1 + 1 ≠ w.heap.size := by omega
    have ne3_1 : w.heap.size + 1 + 1 + 1 ≠ w.heap.size + 1 := by omega
    have ne3_2 : w.heap.size + 1 + 1 + 1 ≠ w.heap.size + 1 + 1 := by omega
    clear hV0 BE BS BC BU BD
    have kS0 : V0.cell? ⟨w.heap.size, 0, none⟩ = some (.int .i64 (s 0)) := HS.out.cell 0
    have kS1 : V0.cell? ⟨w.heap.size, 1, none⟩ = some (.int .i64 (s 1)) := HS.out.cell 1
    have kS2 : V0.cell? ⟨w.heap.size, 2, none⟩ = some (.int .i64 (s 2)) := HS.out.cell 2
    have kS3 : V0.cell? ⟨w.heap.size, 3, none⟩ = some (.int .i64 (s 3)) := HS.out.cell 3
    have kS4 : V0.cell? ⟨w.heap.size, 4, none⟩ = some (.int .i64 (s 4)) := HS.out.cell 4
    have kS5 : V0.cell? ⟨w.heap.size, 5, none⟩ = some (.int .i64 (s 5)) := HS.out.cell 5
    have kS6 : V0.cell? ⟨w.heap.size, 6, none⟩ = some (.int .i64 (s 6)) := HS.out.cell 6
    have kS7 : V0.cell? ⟨w.heap.size, 7, none⟩ = some (.int .i64 (s 7)) := HS.out.cell 7
    have kS8 : V0.cell? ⟨w.heap.size, 8, none⟩ = some (.slice SA sn sc) := HS.out.cell 8
    have kS9 : V0.cell? ⟨w.heap.size, 9, none⟩ = some (.int .i64 (s 9)) := HS.out.cell 9
    have kS10 : V0.cell? ⟨w.heap.size, 10, none⟩ = some (.int .i64 (s 10)) := HS.out.cell 10
    have kS11 : V0.cell? ⟨w.heap.size, 11, none⟩ = some (.int .i64 (s 11)) := HS.out.cell 11
    have kS12 : V0.cell? ⟨w.heap.size, 12, none⟩ = some (.int .i64 (s 12)) := HS.out.cell 12
    have kC0 : V0.cell? ⟨w.heap.size + 1, 0, none⟩ = some (.int .i64 p) := HC.out.cell 0
    have kC1 : V0.cell? ⟨w.heap.size + 1, 1, none⟩ = some (.int .i64 d) := HC.out.cell 1
    have kC2 : V0.cell? ⟨w.heap.size + 1, 2, none⟩ = some (.int .i64 0) := HC.out.cell 2
    have kC3 : V0.cell? ⟨w.heap.size + 1, 3, none⟩ = some (.int .i64 le) := HC.out.cell 3
    have kC4 : V0.cell? ⟨w.heap.size + 1, 4, none⟩ = some (.bool wa) := HC.out.cell 4
    have kC5 : V0.cell? ⟨w.heap.size + 1, 5, none⟩ = some (.slice A n c) := HC.out.cell 5
    have kU0 : V0.cell? ⟨w.heap.size + 1 + 1, 0, none⟩ = some (.int .u64 a0) := HU.out.cell 0
    have kU1 : V0.cell? ⟨w.heap.size + 1 + 1, 1, none⟩ = some (.int .u64 a1) := HU.out.cell 1
    have kD0 : V0.cell? ⟨w.heap.size + 1 + 1 + 1, 0, none⟩ = some (.int .u64 b0) := HD.out.cell 0
    have kD1 : V0.cell? ⟨w.heap.size + 1 + 1 + 1, 1, none⟩ = some (.int .u64 b1) := HD.out.cell 1
    refine (QR.out _ (HRd.out.kept EE.out)).mono ?_
    rintro e v1 ⟨rfl, hb⟩
    clear kS0 kS1 kS2 kS3 kS4 kS5 kS6 kS7 kS8 kS9 kS10 kS11 kS12 kC0 kC1 kC2 kC3 kC4 kC5 kU0 kU1 kD0 kD1
    have HS := Lib.hid (Blk.next (w := V0) HS.out hb)
    have HC := Lib.hid (Blk.next (w := V0) HC.out hb)
    have HU := Lib.hid (Blk.next (w := V0) HU.out hb)
    have HD := Lib.hid (Blk.next (w := V0) HD.out hb)
    have EE := Lib.hid (EE.out.trans (hb.mono EE.out.size))
    clear hb
    have kS0 : v1.cell? ⟨w.heap.size, 0, none⟩ = some (.int .i64 (s 0)) := HS.out.cell 0
    have kS1 : v1.cell? ⟨w.heap.size, 1, none⟩ = some (.int .i64 (s 1)) := HS.out.cell 1
    have kS2 : v1.cell? ⟨w.heap.size, 2, none⟩ = some (.int .i64 (s 2)) := HS.out.cell 2
    have kS3 : v1.cell? ⟨w.heap.size, 3, none⟩ = some (.int .i64 (s 3)) := HS.out.cell 3
    have kS4 : v1.cell? ⟨w.heap.size, 4, none⟩ = some (.int .i64 (s 4)) := HS.out.cell 4
    have kS5 : v1.cell? ⟨w.heap.size, 5, none⟩ = some (.int .i64 (s 5)) := HS.out.cell 5
    have kS6 : v1.cell? ⟨w.heap.size, 6, none⟩ = some (.int .i64 (s 6)) := HS.out.cell 6
    have kS7 : v1.cell? ⟨w.heap.size, 7, none⟩ = some (.int .i64 (s 7)) := HS.out.cell 7
    have kS8 : v1.cell? ⟨w.heap.size, 8, none⟩ = some (.slice SA sn sc) := HS.out.cell 8
    have kS9 : v1.cell? ⟨w.heap.size, 9, none⟩ = some (.int .i64 (s 9)) := HS.out.cell 9
    have kS10 : v1.cell? ⟨w.heap.size, 10, none⟩ = some (.int .i64 (s 10)) := HS.out.cell 10
    have kS11 : v1.cell? ⟨w.heap.size, 11, none⟩ = some (.int .i64 (s 11)) := HS.out.cell 11
    have kS12 : v1.cell? ⟨w.heap.size, 12, none⟩ = some (.int .i64 (s 12)) := HS.out.cell 12
    have kC0 : v1.cell? ⟨w.heap.size + 1, 0, none⟩ = some (.int .i64 p) := HC.out.cell 0
    have kC1 : v1.cell? ⟨w.heap.size + 1, 1, none⟩ = some (.int .i64 d) := HC.out.cell 1
    have kC2 : v1.cell? ⟨w.heap.size + 1, 2, none⟩ = some (.int .i64 0) := HC.out.cell 2
    have kC3 : v1.cell? ⟨w.heap.size + 1, 3, none⟩ = some (.int .i64 le) := HC.out.cell 3
    have kC4 : v1.cell? ⟨w.heap.size + 1, 4, none⟩ = some (.bool wa) := HC.out.cell 4
    have kC5 : v1.cell? ⟨w.heap.size + 1, 5, none⟩ = some (.slice A n c) := HC.out.cell 5
    have kU0 : v1.cell? ⟨w.heap.size + 1 + 1, 0, none⟩ = some (.int .u64 a0) := HU.out.cell 0
    have kU1 : v1.cell? ⟨w.heap.size + 1 + 1, 1, none⟩ = some (.int .u64 a1) := HU.out.cell 1
    have kD0 : v1.cell? ⟨w.heap.size + 1 + 1 + 1, 0, none⟩ = some (.int .u64 b0) := HD.out.cell 0
    have kD1 : v1.cell? ⟨w.heap.size + 1 + 1 + 1, 1, none⟩ = some (.int .u64 b1) := HD.out.cell 1
    go_wp2_with fail
    go_ret2
    exact ⟨rfl, EE.out⟩
  · go_enter Try.func15, Try.ntmps15
    go_wp2_with fail
    have BS := (((Blk.new w #[.int .i64 (s 0), .int .i64 (s 1), .int .i64 (s 2), .int .i64 (s 3), .int .i64 (s 4), .int .i64 (s 5), .int .i64 (s 6), .int .i64 (s 7), .slice SA sn sc, .int .i64 (s 9), .int .i64 (s 10), .int .i64 (s 11), .int .i64 (s 12)] 25).alloc (.cells #[.int .i64 p, .int .i64 d, .int .i64 0, .int .i64 le, .bool wa, .slice A n c] 29)).alloc (.cells #[.int .u64 a0, .int .u64 a1] 32)).alloc (.cells #[.int .u64 b0, .int .u64 b1] 32)
    have BC := ((Blk.new (w.alloc (.cells #[.int .i64 (s 0), .int .i64 (s 1), .int .i64 (s 2), .int .i64 (s 3), .int .i64 (s 4), .int .i64 (s 5), .int .i64 (s 6), .int .i64 (s 7), .slice SA sn sc, .int .i64 (s 9), .int .i64 (s 10), .int .i64 (s 11), .int .i64 (s 12)] 25)) #[.int .i64 p, .int .i64 d, .int .i64 0, .int .i64 le, .bool wa, .slice A n c] 29).alloc (.cells #[.int .u64 a0, .int .u64 a1] 32)).alloc (.cells #[.int .u64 b0, .int .u64 b1] 32)
    rw [World.size_alloc] at BC
    have BU := (Blk.new ((w.alloc (.cells #[.int .i64 (s 0), .int .i64 (s 1), .int .i64 (s 2), .int .i64 (s 3), .int .i64 (s 4), .int .i64 (s 5), .int .i64 (s 6), .int .i64 (s 7), .slice SA sn sc, .int .i64 (s 9), .int .i64 (s 10), .int .i64 (s 11), .int .i64 (s 12)] 25)).alloc (.cells #[.int .i64 p, .int .i64 d, .int .i64 0, .int .i64 le, .bool wa, .slice A n c] 29)) #[.int .u64 a0, .int .u64 a1] 32).alloc (.cells #[.int .u64 b0, .int .u64 b1] 32)
    rw [World.size_alloc, World.size_alloc] at BU
    have BD := Blk.new (((w.alloc (.cells #[.int .i64 (s 0), .int .i64 (s 1), .int .i64 (s 2), .int .i64 (s 3), .int .i64 (s 4), .int .i64 (s 5), .int .i64 (s 6), .int .i64 (s 7), .slice SA sn sc, .int .i64 (s 9), .int .i64 (s 10), .int .i64 (s 11), .int .i64 (s 12)] 25)).alloc (.cells #[.int .i64 p, .int .i64 d, .int .i64 0, .int .i64 le, .bool wa, .slice A n c] 29)).alloc (.cells #[.int .u64 a0, .int .u64 a1] 32)) #[.int .u64 b0, .int .u64 b1] 32
    rw [World.size_alloc, World.size_alloc, World.size_alloc] at BD
    have BE : Below w.heap.size w ((((w.alloc (.cells #[.int .i64 (s 0), .int .i64 (s 1), .int .i64 (s 2), .int .i64 (s 3), .int .i64 (s 4), .int .i64 (s 5), .int .i64 (s 6), .int .i64 (s 7), .slice SA sn sc, .int .i64 (s 9), .int .i64 (s 10), .int .i64 (s 11), .int .i64 (s 12)] 25)).alloc (.cells #[.int .i64 p, .int .i64 d, .int .i64 0, .int .i64 le, .bool wa, .slice A n c] 29)).alloc (.cells #[.int .u64 a0, .int .u64 a1] 32)).alloc (.cells #[.int .u64 b0, .int .u64 b1] 32)) := ((((Below.refl w.heap.size w).alloc (Nat.le_refl _) _).alloc (by simp <;> omega) _).alloc (by simp <;> omega) _).alloc (by simp <;> omega) _
    obtain ⟨V0, hV0⟩ : ∃ V, ((((w.alloc (.cells #[.int .i64 (s 0), .int .i64 (s 1), .int .i64 (s 2), .int .i64 (s 3), .int .i64 (s 4), .int .i64 (s 5), .int .i64 (s 6), .int .i64 (s 7), .slice SA sn sc, .int .i64 (s 9), .int .i64 (s 10), .int .i64 (s 11), .int .i64 (s 12)] 25)).alloc (.cells #[.int .i64 p, .int .i64 d, .int .i64 0, .int .i64 le, .bool wa, .slice A n c] 29)).alloc (.cells #[.int .u64 a0, .int .u64 a1] 32)).alloc (.cells #[.int .u64 b0, .int .u64 b1] 32)) = V := ⟨_, rfl⟩
    rw [hV0] at BS BC BU BD BE ⊢
    have HS := Lib.hid BS
    have HC := Lib.hid BC
    have HU := Lib.hid BU
    have HD := Lib.hid BD
    have EE := Lib.hid BE
    have ne0_1 : w.heap.size ≠ w.heap.size + 1 := by omega
    have ne0_2 : w.heap.size ≠ w.heap.size + 1 + 1 := by omega
    have ne0_3 : w.heap.size ≠ w.heap.size + 1 + 1 + 1 := by omega
    have ne1_0 : w.heap.size + 1 ≠ w.heap.size := by omega
    have ne1_2 : w.heap.size + 1 ≠ w.heap.size + 1 + 1 := by omega
    have ne1_3 : w.heap.size + 1 ≠ w.heap.size + 1 + 1 + 1 := by omega
    have ne2_0 : w.heap.size + 1 + 1 ≠ w.heap.size := by omega
    have ne2_1 : w.heap.size + 1 + 1 ≠ w.heap.size + 1 := by omega
    have ne2_3 : w.heap.size + 1 + 1 ≠ w.heap.size + 1 + 1 + 1 := by omega
    have ne3_0 : w.heap.size + 1 + 1 + 1 ≠ w.heap.size := by omega
    have ne3_1 : w.heap.size + 1 + 1 + 1 ≠ w.heap.size + 1 := by omega
    have ne3_2 : w.heap.size + 1 + 1 + 1 ≠ w.heap.size + 1 + 1 := by omega
    clear hV0 BE BS BC BU BD
    have kS0 : V0.cell? ⟨w.heap.size, 0, none⟩ = some (.int .i64 (s 0)) := HS.out.cell 0
    have kS1 : V0.cell? ⟨w.heap.size, 1, none⟩ = some (.int .i64 (s 1)) := HS.out.cell 1
    have kS2 : V0.cell? ⟨w.heap.size, 2, none⟩ = some (.int .i64 (s 2)) := HS.out.cell 2
    have kS3 : V0.cell? ⟨w.heap.size, 3, none⟩ = some (.int .i64 (s 3)) := HS.out.cell 3
    have kS4 : V0.cell? ⟨w.heap.size, 4, none⟩ = some (.int .i64 (s 4)) := HS.out.cell 4
    have kS5 : V0.cell? ⟨w.heap.size, 5, none⟩ = some (.int .i64 (s 5)) := HS.out.cell 5
    have kS6 : V0.cell? ⟨w.heap.size, 6, none⟩ = some (.int .i64 (s 6)) := HS.out.cell 6
    have kS7 : V0.cell? ⟨w.heap.size, 7, none⟩ = some (.int .i64 (s 7)) := HS.out.cell 7
    have kS8 : V0.cell? ⟨w.heap.size, 8, none⟩ = some (.slice SA sn sc) := HS.out.cell 8
    have kS9 : V0.cell? ⟨w.heap.size, 9, none⟩ = some (.int .i64 (s 9)) := HS.out.cell 9
    have kS10 : V0.cell? ⟨w.heap.size, 10, none⟩ = some (.int .i64 (s 10)) := HS.out.cell 10
    have kS11 : V0.cell? ⟨w.heap.size, 11, none⟩ = some (.int .i64 (s 11)) := HS.out.cell 11
    have kS12 : V0.cell? ⟨w.heap.size, 12, none⟩ = some (.int .i64 (s 12)) := HS.out.cell 12
    have kC0 : V0.cell? ⟨w.heap.size + 1, 0, none⟩ = some (.int .i64 p) := HC.out.cell 0
    have kC1 : V0.cell? ⟨w.heap.size + 1, 1, none⟩ = some (.int .i64 d) := HC.out.cell 1
    have kC2 : V0.cell? ⟨w.heap.size + 1, 2, none⟩ = some (.int .i64 0) := HC.out.cell 2
    have kC3 : V0.cell? ⟨w.heap.size + 1, 3, none⟩ = some (.int .i64 le) := HC.out.cell 3
    have kC4 : V0.cell? ⟨w.heap.size + 1, 4, none⟩ = some (.bool wa) := HC.out.cell 4
    have kC5 : V0.cell? ⟨w.heap.size + 1, 5, none⟩ = some (.slice A n c) := HC.out.cell 5
    have kU0 : V0.cell? ⟨w.heap.size + 1 + 1, 0, none⟩ = some (.int .u64 a0) := HU.out.cell 0
    have kU1 : V0.cell? ⟨w.heap.size + 1 + 1, 1, none⟩ = some (.int .u64 a1) := HU.out.cell 1
    have kD0 : V0.cell? ⟨w.heap.size + 1 + 1 + 1, 0, none⟩ = some (.int .u64 b0) := HD.out.cell 0
    have kD1 : V0.cell? ⟨w.heap.size + 1 + 1 + 1, 1, none⟩ = some (.int .u64 b1) := HD.out.cell 1
    refine (QR.out _ (HRd.out.kept EE.out)).mono ?_
    rintro e v1 ⟨rfl, hb⟩
    clear kS0 kS1 kS2 kS3 kS4 kS5 kS6 kS7 kS8 kS9 kS10 kS11 kS12 kC0 kC1 kC2 kC3 kC4 kC5 kU0 kU1 kD0 kD1
    have HS := Lib.hid (Blk.next (w := V0) HS.out hb)
    have HC := Lib.hid (Blk.next (w := V0) HC.out hb)
    have HU := Lib.hid (Blk.next (w := V0) HU.out hb)
    have HD := Lib.hid (Blk.next (w := V0) HD.out hb)
    have EE := Lib.hid (EE.out.trans (hb.mono EE.out.size))
    clear hb
    have kS0 : v1.cell? ⟨w.heap.size, 0, none⟩ = some (.int .i64 (s 0)) := HS.out.cell 0
    have kS1 : v1.cell? ⟨w.heap.size, 1, none⟩ = some (.int .i64 (s 1)) := HS.out.cell 1
    have kS2 : v1.cell? ⟨w.heap.size, 2, none⟩ = some (.int .i64 (s 2)) := HS.out.cell 2
    have kS3 : v1.cell? ⟨w.heap.size, 3, none⟩ = some (.int .i64 (s 3)) := HS.out.cell 3
    have kS4 : v1.cell? ⟨w.heap.size, 4, none⟩ = some (.int .i64 (s 4)) := HS.out.cell 4
    have kS5 : v1.cell? ⟨w.heap.size, 5, none⟩ = some (.int .i64 (s 5)) := HS.out.cell 5
    have kS6 : v1.cell? ⟨w.heap.size, 6, none⟩ = some (.int .i64 (s 6)) := HS.out.cell 6
    have kS7 : v1.cell? ⟨w.heap.size, 7, none⟩ = some (.int .i64 (s 7)) := HS.out.cell 7
    have kS8 : v1.cell? ⟨w.heap.size, 8, none⟩ = some (.slice SA sn sc) := HS.out.cell 8
    have kS9 : v1.cell? ⟨w.heap.size, 9, none⟩ = some (.int .i64 (s 9)) := HS.out.cell 9
    have kS10 : v1.cell? ⟨w.heap.size, 10, none⟩ = some (.int .i64 (s 10)) := HS.out.cell 10
    have kS11 : v1.cell? ⟨w.heap.size, 11, none⟩ = some (.int .i64 (s 11)) := HS.out.cell 11
    have kS12 : v1.cell? ⟨w.heap.size, 12, none⟩ = some (.int .i64 (s 12)) := HS.out.cell 12
    have kC0 : v1.cell? ⟨w.heap.size + 1, 0, none⟩ = some (.int .i64 p) := HC.out.cell 0
    have kC1 : v1.cell? ⟨w.heap.size + 1, 1, none⟩ = some (.int .i64 d) := HC.out.cell 1
    have kC2 : v1.cell? ⟨w.heap.size + 1, 2, none⟩ = some (.int .i64 0) := HC.out.cell 2
    have kC3 : v1.cell? ⟨w.heap.size + 1, 3, none⟩ = some (.int .i64 le) := HC.out.cell 3
    have kC4 : v1.cell? ⟨w.heap.size + 1, 4, none⟩ = some (.bool wa) := HC.out.cell 4
    have kC5 : v1.cell? ⟨w.heap.size + 1, 5, none⟩ = some (.slice A n c) := HC.out.cell 5
    have kU0 : v1.cell? ⟨w.heap.size + 1 + 1, 0, none⟩ = some (.int .u64 a0) := HU.out.cell 0
    have kU1 : v1.cell? ⟨w.heap.size + 1 + 1, 1, none⟩ = some (.int .u64 a1) := HU.out.cell 1
    have kD0 : v1.cell? ⟨w.heap.size + 1 + 1 + 1, 0, none⟩ = some (.int .u64 b0) := HD.out.cell 0
    have kD1 : v1.cell? ⟨w.heap.size + 1 + 1 + 1, 1, none⟩ = some (.int .u64 b1) := HD.out.cell 1
    go_wp2_with fail
    go_ret2
    exact ⟨rfl, EE.out⟩
set_option maxRecDepth 100000 in
set_option maxHeartbeats 1000000 in
theorem qafter_door (p d md le k : Int) (wa : Bool) (A : Option Addr) (n c : Nat) (z : Nat → Nat → Int) (w : World) (hr : RdZ w 2 A n z) (hl : n ≤ 1000) (k0 : 0 ≤ k) (k1 : k ≤ 5000) (l0 : -100 ≤ le) (l1 : le ≤ 5000) (hm : md = 2 ∨ md = 3 ∨ md = 4) :
    Calls Try.prog 20 #[carV p d md le wa A n c, .int .i64 k] w fun e w' => ∃ A' c', e = .returned (carV p d md (le - k) wa A' n c') ∧ RdZ w' 2 A' n z ∧ (n ≤ c' ∧ c' ≤ maxLen) ∧ Below w.heap.size w w' := by
  have CL := Lib.hid (fun w hr => clone_riders A n c z w hr (by omega))
  have HRd := Lib.hid hr
  unfold carV
  clear hr
  rcases hm with rfl | rfl | rfl
  · go_enter Try.func20, Try.ntmps20
    go_wp2_with fail
    have BC := (Blk.new w #[.int .i64 p, .int .i64 d, .int .i64 2, .int .i64 le, .bool wa, .slice A n c] 29).alloc (.cells #[.int .i64 0, .int .i64 0, .int .i64 0, .int .i64 0, .bool false, .slice none 0 0] 29)
    have BQ := Blk.new (w.alloc (.cells #[.int .i64 p, .int .i64 d, .int .i64 2, .int .i64 le, .bool wa, .slice A n c] 29)) #[.int .i64 0, .int .i64 0, .int .i64 0, .int .i64 0, .bool false, .slice none 0 0] 29
    rw [World.size_alloc] at BQ
    have BE : Below w.heap.size w ((w.alloc (.cells #[.int .i64 p, .int .i64 d, .int .i64 2, .int .i64 le, .bool wa, .slice A n c] 29)).alloc (.cells #[.int .i64 0, .int .i64 0, .int .i64 0, .int .i64 0, .bool false, .slice none 0 0] 29)) := ((Below.refl w.heap.size w).alloc (Nat.le_refl _) _).alloc (by simp <;> omega) _
    obtain ⟨V0, hV0⟩ : ∃ V, ((w.alloc (.cells #[.int .i64 p, .int .i64 d, .int .i64 2, .int .i64 le, .bool wa, .slice A n c] 29)).alloc (.cells #[.int .i64 0, .int .i64 0, .int .i64 0, .int .i64 0, .bool false, .slice none 0 0] 29)) = V := ⟨_, rfl⟩
    rw [hV0] at BC BQ BE ⊢
    have HC := Lib.hid BC
    have HQ := Lib.hid BQ
    have EE := Lib.hid BE
    have ne0_1 : w.heap.size ≠ w.heap.size + 1 := by omega
    have ne1_0 : w.heap.size + 1 ≠ w.heap.size := by omega
    clear hV0 BE BC BQ
    have kC0 : V0.cell? ⟨w.heap.size, 0, none⟩ = some (.int .i64 p) := HC.out.cell 0
    have jC0 : V0.frozen? ⟨w.heap.size, 0, none⟩ = false := HC.out.frozen 0
    have kC1 : V0.cell? ⟨w.heap.size, 1, none⟩ = some (.int .i64 d) := HC.out.cell 1
    have jC1 : V0.frozen? ⟨w.heap.size, 1, none⟩ = false := HC.out.frozen 1
    have kC2 : V0.cell? ⟨w.heap.size, 2, none⟩ = some (.int .i64 2) := HC.out.cell 2
    have jC2 : V0.frozen? ⟨w.heap.size, 2, none⟩ = false := HC.out.frozen 2
    have kC3 : V0.cell? ⟨w.heap.size, 3, none⟩ = some (.int .i64 le) := HC.out.cell 3
    have jC3 : V0.frozen? ⟨w.heap.size, 3, none⟩ = false := HC.out.frozen 3
    have kC4 : V0.cell? ⟨w.heap.size, 4, none⟩ = some (.bool wa) := HC.out.cell 4
    have jC4 : V0.frozen? ⟨w.heap.size, 4, none⟩ = false := HC.out.frozen 4
    have kC5 : V0.cell? ⟨w.heap.size, 5, none⟩ = some (.slice A n c) := HC.out.cell 5
    have jC5 : V0.frozen? ⟨w.heap.size, 5, none⟩ = false := HC.out.frozen 5
    have kQ0 : V0.cell? ⟨w.heap.size + 1, 0, none⟩ = some (.int .i64 0) := HQ.out.cell 0
    have jQ0 : V0.frozen? ⟨w.heap.size + 1, 0, none⟩ = false := HQ.out.frozen 0
    have kQ1 : V0.cell? ⟨w.heap.size + 1, 1, none⟩ = some (.int .i64 0) := HQ.out.cell 1
    have jQ1 : V0.frozen? ⟨w.heap.size + 1, 1, none⟩ = false := HQ.out.frozen 1
    have kQ2 : V0.cell? ⟨w.heap.size + 1, 2, none⟩ = some (.int .i64 0) := HQ.out.cell 2
    have jQ2 : V0.frozen? ⟨w.heap.size + 1, 2, none⟩ = false := HQ.out.frozen 2
    have kQ3 : V0.cell? ⟨w.heap.size + 1, 3, none⟩ = some (.int .i64 0) := HQ.out.cell 3
    have jQ3 : V0.frozen? ⟨w.heap.size + 1, 3, none⟩ = false := HQ.out.frozen 3
    have kQ4 : V0.cell? ⟨w.heap.size + 1, 4, none⟩ = some (.bool false) := HQ.out.cell 4
    have jQ4 : V0.frozen? ⟨w.heap.size + 1, 4, none⟩ = false := HQ.out.frozen 4
    have kQ5 : V0.cell? ⟨w.heap.size + 1, 5, none⟩ = some (.slice none 0 0) := HQ.out.cell 5
    have jQ5 : V0.frozen? ⟨w.heap.size + 1, 5, none⟩ = false := HQ.out.frozen 5
    refine (CL.out _ (HRd.out.kept EE.out)).mono ?_
    rintro e v1 ⟨A', c', rfl, hR', hA', hcc, hb⟩
    have HA' := Lib.hid (show ∀ a, A' = some a → w.heap.size + 1 < a.block from fun a ha => Nat.lt_of_lt_of_le HQ.out.lt (hA' a ha))
    have HN := Lib.hid hR'; have HC' := Lib.hid hcc
    clear hA' hR' hcc
    clear kC0 jC0 kC1 jC1 kC2 jC2 kC3 jC3 kC4 jC4 kC5 jC5 kQ0 jQ0 kQ1 jQ1 kQ2 jQ2 kQ3 jQ3 kQ4 jQ4 kQ5 jQ5
    have HC := Lib.hid (Blk.next (w := V0) HC.out hb)
    have HQ := Lib.hid (Blk.next (w := V0) HQ.out hb)
    have EE := Lib.hid (EE.out.trans (hb.mono EE.out.size))
    clear hb
    have kC0 : v1.cell? ⟨w.heap.size, 0, none⟩ = some (.int .i64 p) := HC.out.cell 0
    have jC0 : v1.frozen? ⟨w.heap.size, 0, none⟩ = false := HC.out.frozen 0
    have kC1 : v1.cell? ⟨w.heap.size, 1, none⟩ = some (.int .i64 d) := HC.out.cell 1
    have jC1 : v1.frozen? ⟨w.heap.size, 1, none⟩ = false := HC.out.frozen 1
    have kC2 : v1.cell? ⟨w.heap.size, 2, none⟩ = some (.int .i64 2) := HC.out.cell 2
    have jC2 : v1.frozen? ⟨w.heap.size, 2, none⟩ = false := HC.out.frozen 2
    have kC3 : v1.cell? ⟨w.heap.size, 3, none⟩ = some (.int .i64 le) := HC.out.cell 3
    have jC3 : v1.frozen? ⟨w.heap.size, 3, none⟩ = false := HC.out.frozen 3
    have kC4 : v1.cell? ⟨w.heap.size, 4, none⟩ = some (.bool wa) := HC.out.cell 4
    have jC4 : v1.frozen? ⟨w.heap.size, 4, none⟩ = false := HC.out.frozen 4
    have kC5 : v1.cell? ⟨w.heap.size, 5, none⟩ = some (.slice A n c) := HC.out.cell 5
    have jC5 : v1.frozen? ⟨w.heap.size, 5, none⟩ = false := HC.out.frozen 5
    have kQ0 : v1.cell? ⟨w.heap.size + 1, 0, none⟩ = some (.int .i64 0) := HQ.out.cell 0
    have jQ0 : v1.frozen? ⟨w.heap.size + 1, 0, none⟩ = false := HQ.out.frozen 0
    have kQ1 : v1.cell? ⟨w.heap.size + 1, 1, none⟩ = some (.int .i64 0) := HQ.out.cell 1
    have jQ1 : v1.frozen? ⟨w.heap.size + 1, 1, none⟩ = false := HQ.out.frozen 1
    have kQ2 : v1.cell? ⟨w.heap.size + 1, 2, none⟩ = some (.int .i64 0) := HQ.out.cell 2
    have jQ2 : v1.frozen? ⟨w.heap.size + 1, 2, none⟩ = false := HQ.out.frozen 2
    have kQ3 : v1.cell? ⟨w.heap.size + 1, 3, none⟩ = some (.int .i64 0) := HQ.out.cell 3
    have jQ3 : v1.frozen? ⟨w.heap.size + 1, 3, none⟩ = false := HQ.out.frozen 3
    have kQ4 : v1.cell? ⟨w.heap.size + 1, 4, none⟩ = some (.bool false) := HQ.out.cell 4
    have jQ4 : v1.frozen? ⟨w.heap.size + 1, 4, none⟩ = false := HQ.out.frozen 4
    have kQ5 : v1.cell? ⟨w.heap.size + 1, 5, none⟩ = some (.slice none 0 0) := HQ.out.cell 5
    have jQ5 : v1.frozen? ⟨w.heap.size + 1, 5, none⟩ = false := HQ.out.frozen 5
    go_wp2_with fail
    all_goals refine bodyPost_ret (v := .agg #[.int .i64 p, .int .i64 d, .int .i64 2, .int .i64 (le - k), .bool wa, .slice A' n c']) (by simp [results, Try.results20, go_sem, *]) rfl ⟨A', c', rfl, ?_, HC'.out, ?_⟩
    any_goals ((iterate 8 refine rdZ_far ?_ (fun a ha => by have := HA'.out a ha; dsimp only; omega) _); exact HN.out)
    all_goals ((iterate 8 refine Below.setCell ?_ (by first | omega | (dsimp only; omega)) _); exact EE.out)
  · go_enter Try.func20, Try.ntmps20
    go_wp2_with fail
    have BC := (Blk.new w #[.int .i64 p, .int .i64 d, .int .i64 3, .int .i64 le, .bool wa, .slice A n c] 29).alloc (.cells #[.int .i64 0, .int .i64 0, .int .i64 0, .int .i64 0, .bool false, .slice none 0 0] 29)
    have BQ := Blk.new (w.alloc (.cells #[.int .i64 p, .int .i64 d, .int .i64 3, .int .i64 le, .bool wa, .slice A n c] 29)) #[.int .i64 0, .int .i64 0, .int .i64 0, .int .i64 0, .bool false, .slice none 0 0] 29
    rw [World.size_alloc] at BQ
    have BE : Below w.heap.size w ((w.alloc (.cells #[.int .i64 p, .int .i64 d, .int .i64 3, .int .i64 le, .bool wa, .slice A n c] 29)).alloc (.cells #[.int .i64 0, .int .i64 0, .int .i64 0, .int .i64 0, .bool false, .slice none 0 0] 29)) := ((Below.refl w.heap.size w).alloc (Nat.le_refl _) _).alloc (by simp <;> omega) _
    obtain ⟨V0, hV0⟩ : ∃ V, ((w.alloc (.cells #[.int .i64 p, .int .i64 d, .int .i64 3, .int .i64 le, .bool wa, .slice A n c] 29)).alloc (.cells #[.int .i64 0, .int .i64 0, .int .i64 0, .int .i64 0, .bool false, .slice none 0 0] 29)) = V := ⟨_, rfl⟩
    rw [hV0] at BC BQ BE ⊢
    have HC := Lib.hid BC
    have HQ := Lib.hid BQ
    have EE := Lib.hid BE
    have ne0_1 : w.heap.size ≠ w.heap.size + 1 := by omega
    have ne1_0 : w.heap.size + 1 ≠ w.heap.size := by omega
    clear hV0 BE BC BQ
    have kC0 : V0.cell? ⟨w.heap.size, 0, none⟩ = some (.int .i64 p) := HC.out.cell 0
    have jC0 : V0.frozen? ⟨w.heap.size, 0, none⟩ = false := HC.out.frozen 0
    have kC1 : V0.cell? ⟨w.heap.size, 1, none⟩ = some (.int .i64 d) := HC.out.cell 1
    have jC1 : V0.frozen? ⟨w.heap.size, 1, none⟩ = false := HC.out.frozen 1
    have kC2 : V0.cell? ⟨w.heap.size, 2, none⟩ = some (.int .i64 3) := HC.out.cell 2
    have jC2 : V0.frozen? ⟨w.heap.size, 2, none⟩ = false := HC.out.frozen 2
    have kC3 : V0.cell? ⟨w.heap.size, 3, none⟩ = some (.int .i64 le) := HC.out.cell 3
    have jC3 : V0.frozen? ⟨w.heap.size, 3, none⟩ = false := HC.out.frozen 3
    have kC4 : V0.cell? ⟨w.heap.size, 4, none⟩ = some (.bool wa) := HC.out.cell 4
    have jC4 : V0.frozen? ⟨w.heap.size, 4, none⟩ = false := HC.out.frozen 4
    have kC5 : V0.cell? ⟨w.heap.size, 5, none⟩ = some (.slice A n c) := HC.out.cell 5
    have jC5 : V0.frozen? ⟨w.heap.size, 5, none⟩ = false := HC.out.frozen 5
    have kQ0 : V0.cell? ⟨w.heap.size + 1, 0, none⟩ = some (.int .i64 0) := HQ.out.cell 0
    have jQ0 : V0.frozen? ⟨w.heap.size + 1, 0, none⟩ = false := HQ.out.frozen 0
    have kQ1 : V0.cell? ⟨w.heap.size + 1, 1, none⟩ = some (.int .i64 0) := HQ.out.cell 1
    have jQ1 : V0.frozen? ⟨w.heap.size + 1, 1, none⟩ = false := HQ.out.frozen 1
    have kQ2 : V0.cell? ⟨w.heap.size + 1, 2, none⟩ = some (.int .i64 0) := HQ.out.cell 2
    have jQ2 : V0.frozen? ⟨w.heap.size + 1, 2, none⟩ = false := HQ.out.frozen 2
    have kQ3 : V0.cell? ⟨w.heap.size + 1, 3, none⟩ = some (.int .i64 0) := HQ.out.cell 3
    have jQ3 : V0.frozen? ⟨w.heap.size + 1, 3, none⟩ = false := HQ.out.frozen 3
    have kQ4 : V0.cell? ⟨w.heap.size + 1, 4, none⟩ = some (.bool false) := HQ.out.cell 4
    have jQ4 : V0.frozen? ⟨w.heap.size + 1, 4, none⟩ = false := HQ.out.frozen 4
    have kQ5 : V0.cell? ⟨w.heap.size + 1, 5, none⟩ = some (.slice none 0 0) := HQ.out.cell 5
    have jQ5 : V0.frozen? ⟨w.heap.size + 1, 5, none⟩ = false := HQ.out.frozen 5
    refine (CL.out _ (HRd.out.kept EE.out)).mono ?_
    rintro e v1 ⟨A', c', rfl, hR', hA', hcc, hb⟩
    have HA' := Lib.hid (show ∀ a, A' = some a → w.heap.size + 1 < a.block from fun a ha => Nat.lt_of_lt_of_le HQ.out.lt (hA' a ha))
    have HN := Lib.hid hR'; have HC' := Lib.hid hcc
    clear hA' hR' hcc
    clear kC0 jC0 kC1 jC1 kC2 jC2 kC3 jC3 kC4 jC4 kC5 jC5 kQ0 jQ0 kQ1 jQ1 kQ2 jQ2 kQ3 jQ3 kQ4 jQ4 kQ5 jQ5
    have HC := Lib.hid (Blk.next (w := V0) HC.out hb)
    have HQ := Lib.hid (Blk.next (w := V0) HQ.out hb)
    have EE := Lib.hid (EE.out.trans (hb.mono EE.out.size))
    clear hb
    have kC0 : v1.cell? ⟨w.heap.size, 0, none⟩ = some (.int .i64 p) := HC.out.cell 0
    have jC0 : v1.frozen? ⟨w.heap.size, 0, none⟩ = false := HC.out.frozen 0
    have kC1 : v1.cell? ⟨w.heap.size, 1, none⟩ = some (.int .i64 d) := HC.out.cell 1
    have jC1 : v1.frozen? ⟨w.heap.size, 1, none⟩ = false := HC.out.frozen 1
    have kC2 : v1.cell? ⟨w.heap.size, 2, none⟩ = some (.int .i64 3) := HC.out.cell 2
    have jC2 : v1.frozen? ⟨w.heap.size, 2, none⟩ = false := HC.out.frozen 2
    have kC3 : v1.cell? ⟨w.heap.size, 3, none⟩ = some (.int .i64 le) := HC.out.cell 3
    have jC3 : v1.frozen? ⟨w.heap.size, 3, none⟩ = false := HC.out.frozen 3
    have kC4 : v1.cell? ⟨w.heap.size, 4, none⟩ = some (.bool wa) := HC.out.cell 4
    have jC4 : v1.frozen? ⟨w.heap.size, 4, none⟩ = false := HC.out.frozen 4
    have kC5 : v1.cell? ⟨w.heap.size, 5, none⟩ = some (.slice A n c) := HC.out.cell 5
    have jC5 : v1.frozen? ⟨w.heap.size, 5, none⟩ = false := HC.out.frozen 5
    have kQ0 : v1.cell? ⟨w.heap.size + 1, 0, none⟩ = some (.int .i64 0) := HQ.out.cell 0
    have jQ0 : v1.frozen? ⟨w.heap.size + 1, 0, none⟩ = false := HQ.out.frozen 0
    have kQ1 : v1.cell? ⟨w.heap.size + 1, 1, none⟩ = some (.int .i64 0) := HQ.out.cell 1
    have jQ1 : v1.frozen? ⟨w.heap.size + 1, 1, none⟩ = false := HQ.out.frozen 1
    have kQ2 : v1.cell? ⟨w.heap.size + 1, 2, none⟩ = some (.int .i64 0) := HQ.out.cell 2
    have jQ2 : v1.frozen? ⟨w.heap.size + 1, 2, none⟩ = false := HQ.out.frozen 2
    have kQ3 : v1.cell? ⟨w.heap.size + 1, 3, none⟩ = some (.int .i64 0) := HQ.out.cell 3
    have jQ3 : v1.frozen? ⟨w.heap.size + 1, 3, none⟩ = false := HQ.out.frozen 3
    have kQ4 : v1.cell? ⟨w.heap.size + 1, 4, none⟩ = some (.bool false) := HQ.out.cell 4
    have jQ4 : v1.frozen? ⟨w.heap.size + 1, 4, none⟩ = false := HQ.out.frozen 4
    have kQ5 : v1.cell? ⟨w.heap.size + 1, 5, none⟩ = some (.slice none 0 0) := HQ.out.cell 5
    have jQ5 : v1.frozen? ⟨w.heap.size + 1, 5, none⟩ = false := HQ.out.frozen 5
    go_wp2_with fail
    all_goals refine bodyPost_ret (v := .agg #[.int .i64 p, .int .i64 d, .int .i64 3, .int .i64 (le - k), .bool wa, .slice A' n c']) (by simp [results, Try.results20, go_sem, *]) rfl ⟨A', c', rfl, ?_, HC'.out, ?_⟩
    any_goals ((iterate 8 refine rdZ_far ?_ (fun a ha => by have := HA'.out a ha; dsimp only; omega) _); exact HN.out)
    all_goals ((iterate 8 refine Below.setCell ?_ (by first | omega | (dsimp only; omega)) _); exact EE.out)
  · go_enter Try.func20, Try.ntmps20
    go_wp2_with fail
    have BC := (Blk.new w #[.int .i64 p, .int .i64 d, .int .i64 4, .int .i64 le, .bool wa, .slice A n c] 29).alloc (.cells #[.int .i64 0, .int .i64 0, .int .i64 0, .int .i64 0, .bool false, .slice none 0 0] 29)
    have BQ := Blk.new (w.alloc (.cells #[.int .i64 p, .int .i64 d, .int .i64 4, .int .i64 le, .bool wa, .slice A n c] 29)) #[.int .i64 0, .int .i64 0, .int .i64 0, .int .i64 0, .bool false, .slice none 0 0] 29
    rw [World.size_alloc] at BQ
    have BE : Below w.heap.size w ((w.alloc (.cells #[.int .i64 p, .int .i64 d, .int .i64 4, .int .i64 le, .bool wa, .slice A n c] 29)).alloc (.cells #[.int .i64 0, .int .i64 0, .int .i64 0, .int .i64 0, .bool false, .slice none 0 0] 29)) := ((Below.refl w.heap.size w).alloc (Nat.le_refl _) _).alloc (by simp <;> omega) _
    obtain ⟨V0, hV0⟩ : ∃ V, ((w.alloc (.cells #[.int .i64 p, .int .i64 d, .int .i64 4, .int .i64 le, .bool wa, .slice A n c] 29)).alloc (.cells #[.int .i64 0, .int .i64 0, .int .i64 0, .int .i64 0, .bool false, .slice none 0 0] 29)) = V := ⟨_, rfl⟩
    rw [hV0] at BC BQ BE ⊢
    have HC := Lib.hid BC
    have HQ := Lib.hid BQ
    have EE := Lib.hid BE
    have ne0_1 : w.heap.size ≠ w.heap.size + 1 := by omega
    have ne1_0 : w.heap.size + 1 ≠ w.heap.size := by omega
    clear hV0 BE BC BQ
    have kC0 : V0.cell? ⟨w.heap.size, 0, none⟩ = some (.int .i64 p) := HC.out.cell 0
    have jC0 : V0.frozen? ⟨w.heap.size, 0, none⟩ = false := HC.out.frozen 0
    have kC1 : V0.cell? ⟨w.heap.size, 1, none⟩ = some (.int .i64 d) := HC.out.cell 1
    have jC1 : V0.frozen? ⟨w.heap.size, 1, none⟩ = false := HC.out.frozen 1
    have kC2 : V0.cell? ⟨w.heap.size, 2, none⟩ = some (.int .i64 4) := HC.out.cell 2
    have jC2 : V0.frozen? ⟨w.heap.size, 2, none⟩ = false := HC.out.frozen 2
    have kC3 : V0.cell? ⟨w.heap.size, 3, none⟩ = some (.int .i64 le) := HC.out.cell 3
    have jC3 : V0.frozen? ⟨w.heap.size, 3, none⟩ = false := HC.out.frozen 3
    have kC4 : V0.cell? ⟨w.heap.size, 4, none⟩ = some (.bool wa) := HC.out.cell 4
    have jC4 : V0.frozen? ⟨w.heap.size, 4, none⟩ = false := HC.out.frozen 4
    have kC5 : V0.cell? ⟨w.heap.size, 5, none⟩ = some (.slice A n c) := HC.out.cell 5
    have jC5 : V0.frozen? ⟨w.heap.size, 5, none⟩ = false := HC.out.frozen 5
    have kQ0 : V0.cell? ⟨w.heap.size + 1, 0, none⟩ = some (.int .i64 0) := HQ.out.cell 0
    have jQ0 : V0.frozen? ⟨w.heap.size + 1, 0, none⟩ = false := HQ.out.frozen 0
    have kQ1 : V0.cell? ⟨w.heap.size + 1, 1, none⟩ = some (.int .i64 0) := HQ.out.cell 1
    have jQ1 : V0.frozen? ⟨w.heap.size + 1, 1, none⟩ = false := HQ.out.frozen 1
    have kQ2 : V0.cell? ⟨w.heap.size + 1, 2, none⟩ = some (.int .i64 0) := HQ.out.cell 2
    have jQ2 : V0.frozen? ⟨w.heap.size + 1, 2, none⟩ = false := HQ.out.frozen 2
    have kQ3 : V0.cell? ⟨w.heap.size + 1, 3, none⟩ = some (.int .i64 0) := HQ.out.cell 3
    have jQ3 : V0.frozen? ⟨w.heap.size + 1, 3, none⟩ = false := HQ.out.frozen 3
    have kQ4 : V0.cell? ⟨w.heap.size + 1, 4, none⟩ = some (.bool false) := HQ.out.cell 4
    have jQ4 : V0.frozen? ⟨w.heap.size + 1, 4, none⟩ = false := HQ.out.frozen 4
    have kQ5 : V0.cell? ⟨w.heap.size + 1, 5, none⟩ = some (.slice none 0 0) := HQ.out.cell 5
    have jQ5 : V0.frozen? ⟨w.heap.size + 1, 5, none⟩ = false := HQ.out.frozen 5
    refine (CL.out _ (HRd.out.kept EE.out)).mono ?_
    rintro e v1 ⟨A', c', rfl, hR', hA', hcc, hb⟩
    have HA' := Lib.hid (show ∀ a, A' = some a → w.heap.size + 1 < a.block from fun a ha => Nat.lt_of_lt_of_le HQ.out.lt (hA' a ha))
    have HN := Lib.hid hR'; have HC' := Lib.hid hcc
    clear hA' hR' hcc
    clear kC0 jC0 kC1 jC1 kC2 jC2 kC3 jC3 kC4 jC4 kC5 jC5 kQ0 jQ0 kQ1 jQ1 kQ2 jQ2 kQ3 jQ3 kQ4 jQ4 kQ5 jQ5
    have HC := Lib.hid (Blk.next (w := V0) HC.out hb)
    have HQ := Lib.hid (Blk.next (w := V0) HQ.out hb)
    have EE := Lib.hid (EE.out.trans (hb.mono EE.out.size))
    clear hb
    have kC0 : v1.cell? ⟨w.heap.size, 0, none⟩ = some (.int .i64 p) := HC.out.cell 0
    have jC0 : v1.frozen? ⟨w.heap.size, 0, none⟩ = false := HC.out.frozen 0
    have kC1 : v1.cell? ⟨w.heap.size, 1, none⟩ = some (.int .i64 d) := HC.out.cell 1
    have jC1 : v1.frozen? ⟨w.heap.size, 1, none⟩ = false := HC.out.frozen 1
    have kC2 : v1.cell? ⟨w.heap.size, 2, none⟩ = some (.int .i64 4) := HC.out.cell 2
    have jC2 : v1.frozen? ⟨w.heap.size, 2, none⟩ = false := HC.out.frozen 2
    have kC3 : v1.cell? ⟨w.heap.size, 3, none⟩ = some (.int .i64 le) := HC.out.cell 3
    have jC3 : v1.frozen? ⟨w.heap.size, 3, none⟩ = false := HC.out.frozen 3
    have kC4 : v1.cell? ⟨w.heap.size, 4, none⟩ = some (.bool wa) := HC.out.cell 4
    have jC4 : v1.frozen? ⟨w.heap.size, 4, none⟩ = false := HC.out.frozen 4
    have kC5 : v1.cell? ⟨w.heap.size, 5, none⟩ = some (.slice A n c) := HC.out.cell 5
    have jC5 : v1.frozen? ⟨w.heap.size, 5, none⟩ = false := HC.out.frozen 5
    have kQ0 : v1.cell? ⟨w.heap.size + 1, 0, none⟩ = some (.int .i64 0) := HQ.out.cell 0
    have jQ0 : v1.frozen? ⟨w.heap.size + 1, 0, none⟩ = false := HQ.out.frozen 0
    have kQ1 : v1.cell? ⟨w.heap.size + 1, 1, none⟩ = some (.int .i64 0) := HQ.out.cell 1
    have jQ1 : v1.frozen? ⟨w.heap.size + 1, 1, none⟩ = false := HQ.out.frozen 1
    have kQ2 : v1.cell? ⟨w.heap.size + 1, 2, none⟩ = some (.int .i64 0) := HQ.out.cell 2
    have jQ2 : v1.frozen? ⟨w.heap.size + 1, 2, none⟩ = false := HQ.out.frozen 2
    have kQ3 : v1.cell? ⟨w.heap.size + 1, 3, none⟩ = some (.int .i64 0) := HQ.out.cell 3
    have jQ3 : v1.frozen? ⟨w.heap.size + 1, 3, none⟩ = false := HQ.out.frozen 3
    have kQ4 : v1.cell? ⟨w.heap.size + 1, 4, none⟩ = some (.bool false) := HQ.out.cell 4
    have jQ4 : v1.frozen? ⟨w.heap.size + 1, 4, none⟩ = false := HQ.out.frozen 4
    have kQ5 : v1.cell? ⟨w.heap.size + 1, 5, none⟩ = some (.slice none 0 0) := HQ.out.cell 5
    have jQ5 : v1.frozen? ⟨w.heap.size + 1, 5, none⟩ = false := HQ.out.frozen 5
    go_wp2_with fail
    all_goals refine bodyPost_ret (v := .agg #[.int .i64 p, .int .i64 d, .int .i64 4, .int .i64 (le - k), .bool wa, .slice A' n c']) (by simp [results, Try.results20, go_sem, *]) rfl ⟨A', c', rfl, ?_, HC'.out, ?_⟩
    any_goals ((iterate 8 refine rdZ_far ?_ (fun a ha => by have := HA'.out a ha; dsimp only; omega) _); exact HN.out)
    all_goals ((iterate 8 refine Below.setCell ?_ (by first | omega | (dsimp only; omega)) _); exact EE.out)
set_option maxRecDepth 100000 in
set_option maxHeartbeats 1000000 in
theorem qafter_go (p d md le k : Int) (wa : Bool) (A : Option Addr) (n c : Nat) (z : Nat → Nat → Int) (w : World) (hr : RdZ w 2 A n z) (hl : n ≤ 1000) (k0 : 0 ≤ k) (k1 : k ≤ 5000) (p0 : 0 ≤ p) (p1 : p ≤ 5000) (hd : d = 1 ∨ d = 0 ∨ d = -1) :
    Calls Try.prog 20 #[carV p d 1 le wa A n c, .int .i64 k] w fun e w' => ∃ A' c', e = .returned (carV (p + k * d) d 1 le wa A' n c') ∧ RdZ w' 2 A' n z ∧ (n ≤ c' ∧ c' ≤ maxLen) ∧ Below w.heap.size w w' := by
  have CL := Lib.hid (fun w hr => clone_riders A n c z w hr (by omega))
  have HRd := Lib.hid hr
  unfold carV
  clear hr
  have hmul : IntKind.i64.wrap (k * d) = k * d := IntWalk.i64_in _ (by rcases hd with rfl | rfl | rfl <;> omega)
  have hb0 : -5000 ≤ k * d ∧ k * d ≤ 5000 := by rcases hd with rfl | rfl | rfl <;> omega
  obtain ⟨m, hm⟩ : ∃ m, k * d = m := ⟨_, rfl⟩
  rw [hm] at hmul hb0 ⊢
  obtain ⟨hb1, hb2⟩ := hb0
  go_enter Try.func20, Try.ntmps20
  go_wp2_with fail
  have BC := (Blk.new w #[.int .i64 p, .int .i64 d, .int .i64 1, .int .i64 le, .bool wa, .slice A n c] 29).alloc (.cells #[.int .i64 0, .int .i64 0, .int .i64 0, .int .i64 0, .bool false, .slice none 0 0] 29)
  have BQ := Blk.new (w.alloc (.cells #[.int .i64 p, .int .i64 d, .int .i64 1, .int .i64 le, .bool wa, .slice A n c] 29)) #[.int .i64 0, .int .i64 0, .int .i64 0, .int .i64 0, .bool false, .slice none 0 0] 29
  rw [World.size_alloc] at BQ
  have BE : Below w.heap.size w ((w.alloc (.cells #[.int .i64 p, .int .i64 d, .int .i64 1, .int .i64 le, .bool wa, .slice A n c] 29)).alloc (.cells #[.int .i64 0, .int .i64 0, .int .i64 0, .int .i64 0, .bool false, .slice none 0 0] 29)) := ((Below.refl w.heap.size w).alloc (Nat.le_refl _) _).alloc (by simp <;> omega) _
  obtain ⟨V0, hV0⟩ : ∃ V, ((w.alloc (.cells #[.int .i64 p, .int .i64 d, .int .i64 1, .int .i64 le, .bool wa, .slice A n c] 29)).alloc (.cells #[.int .i64 0, .int .i64 0, .int .i64 0, .int .i64 0, .bool false, .slice none 0 0] 29)) = V := ⟨_, rfl⟩
  rw [hV0] at BC BQ BE ⊢
  have HC := Lib.hid BC
  have HQ := Lib.hid BQ
  have EE := Lib.hid BE
  have ne0_1 : w.heap.size ≠ w.heap.size + 1 := by omega
  have ne1_0 : w.heap.size + 1 ≠ w.heap.size := by omega
  clear hV0 BE BC BQ
  have kC0 : V0.cell? ⟨w.heap.size, 0, none⟩ = some (.int .i64 p) := HC.out.cell 0
  have jC0 : V0.frozen? ⟨w.heap.size, 0, none⟩ = false := HC.out.frozen 0
  have kC1 : V0.cell? ⟨w.heap.size, 1, none⟩ = some (.int .i64 d) := HC.out.cell 1
  have jC1 : V0.frozen? ⟨w.heap.size, 1, none⟩ = false := HC.out.frozen 1
  have kC2 : V0.cell? ⟨w.heap.size, 2, none⟩ = some (.int .i64 1) := HC.out.cell 2
  have jC2 : V0.frozen? ⟨w.heap.size, 2, none⟩ = false := HC.out.frozen 2
  have kC3 : V0.cell? ⟨w.heap.size, 3, none⟩ = some (.int .i64 le) := HC.out.cell 3
  have jC3 : V0.frozen? ⟨w.heap.size, 3, none⟩ = false := HC.out.frozen 3
  have kC4 : V0.cell? ⟨w.heap.size, 4, none⟩ = some (.bool wa) := HC.out.cell 4
  have jC4 : V0.frozen? ⟨w.heap.size, 4, none⟩ = false := HC.out.frozen 4
  have kC5 : V0.cell? ⟨w.heap.size, 5, none⟩ = some (.slice A n c) := HC.out.cell 5
  have jC5 : V0.frozen? ⟨w.heap.size, 5, none⟩ = false := HC.out.frozen 5
  have kQ0 : V0.cell? ⟨w.heap.size + 1, 0, none⟩ = some (.int .i64 0) := HQ.out.cell 0
  have jQ0 : V0.frozen? ⟨w.heap.size + 1, 0, none⟩ = false := HQ.out.frozen 0
  have kQ1 : V0.cell? ⟨w.heap.size + 1, 1, none⟩ = some (.int .i64 0) := HQ.out.cell 1
  have jQ1 : V0.frozen? ⟨w.heap.size + 1, 1, none⟩ = false := HQ.out.frozen 1
  have kQ2 : V0.cell? ⟨w.heap.size + 1, 2, none⟩ = some (.int .i64 0) := HQ.out.cell 2
  have jQ2 : V0.frozen? ⟨w.heap.size + 1, 2, none⟩ = false := HQ.out.frozen 2
  have kQ3 : V0.cell? ⟨w.heap.size + 1, 3, none⟩ = some (.int .i64 0) := HQ.out.cell 3
  have jQ3 : V0.frozen? ⟨w.heap.size + 1, 3, none⟩ = false := HQ.out.frozen 3
  have kQ4 : V0.cell? ⟨w.heap.size + 1, 4, none⟩ = some (.bool false) := HQ.out.cell 4
  have jQ4 : V0.frozen? ⟨w.heap.size + 1, 4, none⟩ = false := HQ.out.frozen 4
  have kQ5 : V0.cell? ⟨w.heap.size + 1, 5, none⟩ = some (.slice none 0 0) := HQ.out.cell 5
  have jQ5 : V0.frozen? ⟨w.heap.size + 1, 5, none⟩ = false := HQ.out.frozen 5
  refine (CL.out _ (HRd.out.kept EE.out)).mono ?_
  rintro e v1 ⟨A', c', rfl, hR', hA', hcc, hb⟩
  have HA' := Lib.hid (show ∀ a, A' = some a → w.heap.size + 1 < a.block from fun a ha => Nat.lt_of_lt_of_le HQ.out.lt (hA' a ha))
  have HN := Lib.hid hR'; have HC' := Lib.hid hcc
  clear hA' hR' hcc
  clear kC0 jC0 kC1 jC1 kC2 jC2 kC3 jC3 kC4 jC4 kC5 jC5 kQ0 jQ0 kQ1 jQ1 kQ2 jQ2 kQ3 jQ3 kQ4 jQ4 kQ5 jQ5
  have HC := Lib.hid (Blk.next (w := V0) HC.out hb)
  have HQ := Lib.hid (Blk.next (w := V0) HQ.out hb)
  have EE := Lib.hid (EE.out.trans (hb.mono EE.out.size))
  clear hb
  have kC0 : v1.cell? ⟨w.heap.size, 0, none⟩ = some (.int .i64 p) := HC.out.cell 0
  have jC0 : v1.frozen? ⟨w.heap.size, 0, none⟩ = false := HC.out.frozen 0
  have kC1 : v1.cell? ⟨w.heap.size, 1, none⟩ = some (.int .i64 d) := HC.out.cell 1
  have jC1 : v1.frozen? ⟨w.heap.size, 1, none⟩ = false := HC.out.frozen 1
  have kC2 : v1.cell? ⟨w.heap.size, 2, none⟩ = some (.int .i64 1) := HC.out.cell 2
  have jC2 : v1.frozen? ⟨w.heap.size, 2, none⟩ = false := HC.out.frozen 2
  have kC3 : v1.cell? ⟨w.heap.size, 3, none⟩ = some (.int .i64 le) := HC.out.cell 3
  have jC3 : v1.frozen? ⟨w.heap.size, 3, none⟩ = false := HC.out.frozen 3
  have kC4 : v1.cell? ⟨w.heap.size, 4, none⟩ = some (.bool wa) := HC.out.cell 4
  have jC4 : v1.frozen? ⟨w.heap.size, 4, none⟩ = false := HC.out.frozen 4
  have kC5 : v1.cell? ⟨w.heap.size, 5, none⟩ = some (.slice A n c) := HC.out.cell 5
  have jC5 : v1.frozen? ⟨w.heap.size, 5, none⟩ = false := HC.out.frozen 5
  have kQ0 : v1.cell? ⟨w.heap.size + 1, 0, none⟩ = some (.int .i64 0) := HQ.out.cell 0
  have jQ0 : v1.frozen? ⟨w.heap.size + 1, 0, none⟩ = false := HQ.out.frozen 0
  have kQ1 : v1.cell? ⟨w.heap.size + 1, 1, none⟩ = some (.int .i64 0) := HQ.out.cell 1
  have jQ1 : v1.frozen? ⟨w.heap.size + 1, 1, none⟩ = false := HQ.out.frozen 1
  have kQ2 : v1.cell? ⟨w.heap.size + 1, 2, none⟩ = some (.int .i64 0) := HQ.out.cell 2
  have jQ2 : v1.frozen? ⟨w.heap.size + 1, 2, none⟩ = false := HQ.out.frozen 2
  have kQ3 : v1.cell? ⟨w.heap.size + 1, 3, none⟩ = some (.int .i64 0) := HQ.out.cell 3
  have jQ3 : v1.frozen? ⟨w.heap.size + 1, 3, none⟩ = false := HQ.out.frozen 3
  have kQ4 : v1.cell? ⟨w.heap.size + 1, 4, none⟩ = some (.bool false) := HQ.out.cell 4
  have jQ4 : v1.frozen? ⟨w.heap.size + 1, 4, none⟩ = false := HQ.out.frozen 4
  have kQ5 : v1.cell? ⟨w.heap.size + 1, 5, none⟩ = some (.slice none 0 0) := HQ.out.cell 5
  have jQ5 : v1.frozen? ⟨w.heap.size + 1, 5, none⟩ = false := HQ.out.frozen 5
  go_wp2_with fail
  all_goals refine bodyPost_ret (v := .agg #[.int .i64 (p + m), .int .i64 d, .int .i64 1, .int .i64 le, .bool wa, .slice A' n c']) (by simp [results, Try.results20, go_sem, *]) rfl ⟨A', c', rfl, ?_, HC'.out, ?_⟩
  any_goals ((iterate 8 refine rdZ_far ?_ (fun a ha => by have := HA'.out a ha; dsimp only; omega) _); exact HN.out)
  all_goals ((iterate 8 refine Below.setCell ?_ (by first | omega | (dsimp only; omega)) _); exact EE.out)
set_option maxRecDepth 100000 in
set_option maxHeartbeats 1000000 in
theorem qafter_idle (p d md le k : Int) (wa : Bool) (A : Option Addr) (n c : Nat) (z : Nat → Nat → Int) (w : World) (hr : RdZ w 2 A n z) (hl : n ≤ 1000) (k0 : 0 ≤ k) (k1 : k ≤ 5000)  :
    Calls Try.prog 20 #[carV p d 0 le wa A n c, .int .i64 k] w fun e w' => ∃ A' c', e = .returned (carV p d 0 le wa A' n c') ∧ RdZ w' 2 A' n z ∧ (n ≤ c' ∧ c' ≤ maxLen) ∧ Below w.heap.size w w' := by
  have CL := Lib.hid (fun w hr => clone_riders A n c z w hr (by omega))
  have HRd := Lib.hid hr
  unfold carV
  clear hr
  skip
  go_enter Try.func20, Try.ntmps20
  go_wp2_with fail
  have BC := (Blk.new w #[.int .i64 p, .int .i64 d, .int .i64 0, .int .i64 le, .bool wa, .slice A n c] 29).alloc (.cells #[.int .i64 0, .int .i64 0, .int .i64 0, .int .i64 0, .bool false, .slice none 0 0] 29)
  have BQ := Blk.new (w.alloc (.cells #[.int .i64 p, .int .i64 d, .int .i64 0, .int .i64 le, .bool wa, .slice A n c] 29)) #[.int .i64 0, .int .i64 0, .int .i64 0, .int .i64 0, .bool false, .slice none 0 0] 29
  rw [World.size_alloc] at BQ
  have BE : Below w.heap.size w ((w.alloc (.cells #[.int .i64 p, .int .i64 d, .int .i64 0, .int .i64 le, .bool wa, .slice A n c] 29)).alloc (.cells #[.int .i64 0, .int .i64 0, .int .i64 0, .int .i64 0, .bool false, .slice none 0 0] 29)) := ((Below.refl w.heap.size w).alloc (Nat.le_refl _) _).alloc (by simp <;> omega) _
  obtain ⟨V0, hV0⟩ : ∃ V, ((w.alloc (.cells #[.int .i64 p, .int .i64 d, .int .i64 0, .int .i64 le, .bool wa, .slice A n c] 29)).alloc (.cells #[.int .i64 0, .int .i64 0, .int .i64 0, .int .i64 0, .bool false, .slice none 0 0] 29)) = V := ⟨_, rfl⟩
  rw [hV0] at BC BQ BE ⊢
  have HC := Lib.hid BC
  have HQ := Lib.hid BQ
  have EE := Lib.hid BE
  have ne0_1 : w.heap.size ≠ w.heap.size + 1 := by omega
  have ne1_0 : w.heap.size + 1 ≠ w.heap.size := by omega
  clear hV0 BE BC BQ
  have kC0 : V0.cell? ⟨w.heap.size, 0, none⟩ = some (.int .i64 p) := HC.out.cell 0
  have jC0 : V0.frozen? ⟨w.heap.size, 0, none⟩ = false := HC.out.frozen 0
  have kC1 : V0.cell? ⟨w.heap.size, 1, none⟩ = some (.int .i64 d) := HC.out.cell 1
  have jC1 : V0.frozen? ⟨w.heap.size, 1, none⟩ = false := HC.out.frozen 1
  have kC2 : V0.cell? ⟨w.heap.size, 2, none⟩ = some (.int .i64 0) := HC.out.cell 2
  have jC2 : V0.frozen? ⟨w.heap.size, 2, none⟩ = false := HC.out.frozen 2
  have kC3 : V0.cell? ⟨w.heap.size, 3, none⟩ = some (.int .i64 le) := HC.out.cell 3
  have jC3 : V0.frozen? ⟨w.heap.size, 3, none⟩ = false := HC.out.frozen 3
  have kC4 : V0.cell? ⟨w.heap.size, 4, none⟩ = some (.bool wa) := HC.out.cell 4
  have jC4 : V0.frozen? ⟨w.heap.size, 4, none⟩ = false := HC.out.frozen 4
  have kC5 : V0.cell? ⟨w.heap.size, 5, none⟩ = some (.slice A n c) := HC.out.cell 5
  have jC5 : V0.frozen? ⟨w.heap.size, 5, none⟩ = false := HC.out.frozen 5
  have kQ0 : V0.cell? ⟨w.heap.size + 1, 0, none⟩ = some (.int .i64 0) := HQ.out.cell 0
  have jQ0 : V0.frozen? ⟨w.heap.size + 1, 0, none⟩ = false := HQ.out.frozen 0
  have kQ1 : V0.cell? ⟨w.heap.size + 1, 1, none⟩ = some (.int .i64 0) := HQ.out.cell 1
  have jQ1 : V0.frozen? ⟨w.heap.size + 1, 1, none⟩ = false := HQ.out.frozen 1
  have kQ2 : V0.cell? ⟨w.heap.size + 1, 2, none⟩ = some (.int .i64 0) := HQ.out.cell 2
  have jQ2 : V0.frozen? ⟨w.heap.size + 1, 2, none⟩ = false := HQ.out.frozen 2
  have kQ3 : V0.cell? ⟨w.heap.size + 1, 3, none⟩ = some (.int .i64 0) := HQ.out.cell 3
  have jQ3 : V0.frozen? ⟨w.heap.size + 1, 3, none⟩ = false := HQ.out.frozen 3
  have kQ4 : V0.cell? ⟨w.heap.size + 1, 4, none⟩ = some (.bool false) := HQ.out.cell 4
  have jQ4 : V0.frozen? ⟨w.heap.size + 1, 4, none⟩ = false := HQ.out.frozen 4
  have kQ5 : V0.cell? ⟨w.heap.size + 1, 5, none⟩ = some (.slice none 0 0) := HQ.out.cell 5
  have jQ5 : V0.frozen? ⟨w.heap.size + 1, 5, none⟩ = false := HQ.out.frozen 5
  refine (CL.out _ (HRd.out.kept EE.out)).mono ?_
  rintro e v1 ⟨A', c', rfl, hR', hA', hcc, hb⟩
  have HA' := Lib.hid (show ∀ a, A' = some a → w.heap.size + 1 < a.block from fun a ha => Nat.lt_of_lt_of_le HQ.out.lt (hA' a ha))
  have HN := Lib.hid hR'; have HC' := Lib.hid hcc
  clear hA' hR' hcc
  clear kC0 jC0 kC1 jC1 kC2 jC2 kC3 jC3 kC4 jC4 kC5 jC5 kQ0 jQ0 kQ1 jQ1 kQ2 jQ2 kQ3 jQ3 kQ4 jQ4 kQ5 jQ5
  have HC := Lib.hid (Blk.next (w := V0) HC.out hb)
  have HQ := Lib.hid (Blk.next (w := V0) HQ.out hb)
  have EE := Lib.hid (EE.out.trans (hb.mono EE.out.size))
  clear hb
  have kC0 : v1.cell? ⟨w.heap.size, 0, none⟩ = some (.int .i64 p) := HC.out.cell 0
  have jC0 : v1.frozen? ⟨w.heap.size, 0, none⟩ = false := HC.out.frozen 0
  have kC1 : v1.cell? ⟨w.heap.size, 1, none⟩ = some (.int .i64 d) := HC.out.cell 1
  have jC1 : v1.frozen? ⟨w.heap.size, 1, none⟩ = false := HC.out.frozen 1
  have kC2 : v1.cell? ⟨w.heap.size, 2, none⟩ = some (.int .i64 0) := HC.out.cell 2
  have jC2 : v1.frozen? ⟨w.heap.size, 2, none⟩ = false := HC.out.frozen 2
  have kC3 : v1.cell? ⟨w.heap.size, 3, none⟩ = some (.int .i64 le) := HC.out.cell 3
  have jC3 : v1.frozen? ⟨w.heap.size, 3, none⟩ = false := HC.out.frozen 3
  have kC4 : v1.cell? ⟨w.heap.size, 4, none⟩ = some (.bool wa) := HC.out.cell 4
  have jC4 : v1.frozen? ⟨w.heap.size, 4, none⟩ = false := HC.out.frozen 4
  have kC5 : v1.cell? ⟨w.heap.size, 5, none⟩ = some (.slice A n c) := HC.out.cell 5
  have jC5 : v1.frozen? ⟨w.heap.size, 5, none⟩ = false := HC.out.frozen 5
  have kQ0 : v1.cell? ⟨w.heap.size + 1, 0, none⟩ = some (.int .i64 0) := HQ.out.cell 0
  have jQ0 : v1.frozen? ⟨w.heap.size + 1, 0, none⟩ = false := HQ.out.frozen 0
  have kQ1 : v1.cell? ⟨w.heap.size + 1, 1, none⟩ = some (.int .i64 0) := HQ.out.cell 1
  have jQ1 : v1.frozen? ⟨w.heap.size + 1, 1, none⟩ = false := HQ.out.frozen 1
  have kQ2 : v1.cell? ⟨w.heap.size + 1, 2, none⟩ = some (.int .i64 0) := HQ.out.cell 2
  have jQ2 : v1.frozen? ⟨w.heap.size + 1, 2, none⟩ = false := HQ.out.frozen 2
  have kQ3 : v1.cell? ⟨w.heap.size + 1, 3, none⟩ = some (.int .i64 0) := HQ.out.cell 3
  have jQ3 : v1.frozen? ⟨w.heap.size + 1, 3, none⟩ = false := HQ.out.frozen 3
  have kQ4 : v1.cell? ⟨w.heap.size + 1, 4, none⟩ = some (.bool false) := HQ.out.cell 4
  have jQ4 : v1.frozen? ⟨w.heap.size + 1, 4, none⟩ = false := HQ.out.frozen 4
  have kQ5 : v1.cell? ⟨w.heap.size + 1, 5, none⟩ = some (.slice none 0 0) := HQ.out.cell 5
  have jQ5 : v1.frozen? ⟨w.heap.size + 1, 5, none⟩ = false := HQ.out.frozen 5
  go_wp2_with fail
  all_goals refine bodyPost_ret (v := .agg #[.int .i64 p, .int .i64 d, .int .i64 0, .int .i64 le, .bool wa, .slice A' n c']) (by simp [results, Try.results20, go_sem, *]) rfl ⟨A', c', rfl, ?_, HC'.out, ?_⟩
  any_goals ((iterate 7 refine rdZ_far ?_ (fun a ha => by have := HA'.out a ha; dsimp only; omega) _); exact HN.out)
  all_goals ((iterate 7 refine Below.setCell ?_ (by first | omega | (dsimp only; omega)) _); exact EE.out)
end Go.Proofs.Ytffcmfpadaebdaa
