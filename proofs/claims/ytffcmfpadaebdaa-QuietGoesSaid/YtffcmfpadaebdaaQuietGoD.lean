/- QuietGoes: a car at a door. -/
import Derived.Test.YtffcmfpadaebdaaFaceB
import Derived.Test.YtffcmfpadaebdaaCarM
import Derived.Test.YtffcmfpadaebdaaWantM
import Derived.Test.YtffcmfpadaebdaaRows
import Derived.Test.YtffcmfpadaebdaaKitM
import Derived.Test.YtffcmfpadaebdaaBitM
import Derived.Laws.AppendOwnNone
import Derived.WalkKit
import Derived.OwnWalk
import Derived.Laws.MakeOwn
import Derived.Laws.OwnMore
import Derived.Deep.LoopGhost
import Derived.IntWalk
import Derived.Lib.Hide
import Derived.WalkSpells
import Derived.WalkLawsBesides
import Derived.Laws.CopyOwn
import Derived.Deep.QuietTactic
import Derived.Deep.RegionHeld3
import Derived.BigQuiet
import Derived.BigRegion
import Derived.Test.YtffcmfpadaebdaaMoveB
import Derived.Test.YtffcmfpadaebdaaFaceC
import Derived.Test.YtffcmfpadaebdaaFaceD
import Derived.Test.YtffcmfpadaebdaaNearH
import Derived.Test.YtffcmfpadaebdaaPlaceA
import Derived.Test.YtffcmfpadaebdaaMoveMath
import Derived.Test.YtffcmfpadaebdaaMoveC
import Derived.Maps.AppendAt
import Derived.Test.YtffcmfpadaebdaaMoveD
import Derived.Test.YtffcmfpadaebdaaMoveE
import Derived.Test.YtffcmfpadaebdaaMoveF
import Derived.Test.YtffcmfpadaebdaaMoveH
import Derived.Test.YtffcmfpadaebdaaMoveJ
import Derived.Test.YtffcmfpadaebdaaMoveK
import Derived.Test.YtffcmfpadaebdaaMoveL
import Derived.Test.YtffcmfpadaebdaaMoveN
import Derived.Test.YtffcmfpadaebdaaMoveO
namespace Go.Proofs.Ytffcmfpadaebdaa
open Go.RowKit
set_option linter.unusedSimpArgs false
set_option linter.unusedVariables false
set_option maxRecDepth 100000 in
set_option maxHeartbeats 40000000 in
theorem qg_door (s : Nat → Int) (SA : Option Addr) (sn sc : Nat) (sz : Nat → Nat → Int) (p d md le : Int) (wa : Bool) (A : Option Addr) (n c : Nat) (z : Nat → Nat → Int) (a0 a1 b0 b1 : Nat) (w : World) (hs : RdZ w 3 SA sn sz) (hr : RdZ w 2 A n z) (hp : (Lit.int .i64 p).wf = true) (hd : (Lit.int .i64 d).wf = true) (hmd : (Lit.int .i64 md).wf = true) (hle : (Lit.int .i64 le).wf = true) (hnc : n ≤ c) (hcm : c ≤ maxLen) (h0 : a0 < 18446744073709551616) (h1 : a1 < 18446744073709551616) (h2 : b0 < 18446744073709551616) (h3 : b1 < 18446744073709551616) (hm234 : md = 2 ∨ md = 3 ∨ md = 4) :
    Calls Try.prog 6 #[scnV s SA sn sc, carV p d md le wa A n c, .agg #[.int .u64 a0, .int .u64 a1, .int .u64 b0, .int .u64 b1]] w fun e w' => e = .returned (.bool true) ∧ Below w.heap.size w w' := by
  have FI := fun w hs hr => fine_any s SA sn sc sz p d md le wa A n c z a0 a1 b0 b1 w hs hr hp hd hmd hle hnc hcm h0 h1 h2 h3
  have QD := fun le w hm => qnext_door s SA sn sc p d md le wa A n c (mem a0 a1) (mem b0 b1) w hm
  rw [← setV_mem h0 h1, ← setV_mem h2 h3] at QD
  have HRd := Lib.hid hr
  have HSZ := Lib.hid hs
  clear hs hr hp hd hmd hle h0 h1 h2 h3 hnc hcm
  have AF := fun l k A n c z w hr hl k0 k1 l0 l1 hm => qafter_door p d md l k wa A n c z w hr hl k0 k1 l0 l1 hm
  have RC := fun l A B c c2 w ha hb hl => rcar_any p d md l wa A B n c c2 z w ha hb hl
  unfold scnV carV at *
  replace FI := Lib.hid FI; replace QD := Lib.hid QD; replace AF := Lib.hid AF; replace RC := Lib.hid RC
  have HM := Lib.hid hm234
  have hm0 : (md == 0) = false := by rw [beq_eq_false_iff_ne]; omega
  have hm1 : (md == 1) = false := by rw [beq_eq_false_iff_ne]; omega
  go_enter Try.func6, Try.ntmps6
  go_wp2_with fail
  have BS := ((Blk.new w #[.int .i64 (s 0), .int .i64 (s 1), .int .i64 (s 2), .int .i64 (s 3), .int .i64 (s 4), .int .i64 (s 5), .int .i64 (s 6), .int .i64 (s 7), .slice SA sn sc, .int .i64 (s 9), .int .i64 (s 10), .int .i64 (s 11), .int .i64 (s 12)] 25).alloc (.cells #[.int .i64 p, .int .i64 d, .int .i64 md, .int .i64 le, .bool wa, .slice A n c] 29)).alloc (.cells #[.int .u64 a0, .int .u64 a1, .int .u64 b0, .int .u64 b1] 33)
  have BC := (Blk.new (w.alloc (.cells #[.int .i64 (s 0), .int .i64 (s 1), .int .i64 (s 2), .int .i64 (s 3), .int .i64 (s 4), .int .i64 (s 5), .int .i64 (s 6), .int .i64 (s 7), .slice SA sn sc, .int .i64 (s 9), .int .i64 (s 10), .int .i64 (s 11), .int .i64 (s 12)] 25)) #[.int .i64 p, .int .i64 d, .int .i64 md, .int .i64 le, .bool wa, .slice A n c] 29).alloc (.cells #[.int .u64 a0, .int .u64 a1, .int .u64 b0, .int .u64 b1] 33)
  rw [World.size_alloc] at BC
  have BL := Blk.new ((w.alloc (.cells #[.int .i64 (s 0), .int .i64 (s 1), .int .i64 (s 2), .int .i64 (s 3), .int .i64 (s 4), .int .i64 (s 5), .int .i64 (s 6), .int .i64 (s 7), .slice SA sn sc, .int .i64 (s 9), .int .i64 (s 10), .int .i64 (s 11), .int .i64 (s 12)] 25)).alloc (.cells #[.int .i64 p, .int .i64 d, .int .i64 md, .int .i64 le, .bool wa, .slice A n c] 29)) #[.int .u64 a0, .int .u64 a1, .int .u64 b0, .int .u64 b1] 33
  rw [World.size_alloc, World.size_alloc] at BL
  have BE : Below w.heap.size w (((w.alloc (.cells #[.int .i64 (s 0), .int .i64 (s 1), .int .i64 (s 2), .int .i64 (s 3), .int .i64 (s 4), .int .i64 (s 5), .int .i64 (s 6), .int .i64 (s 7), .slice SA sn sc, .int .i64 (s 9), .int .i64 (s 10), .int .i64 (s 11), .int .i64 (s 12)] 25)).alloc (.cells #[.int .i64 p, .int .i64 d, .int .i64 md, .int .i64 le, .bool wa, .slice A n c] 29)).alloc (.cells #[.int .u64 a0, .int .u64 a1, .int .u64 b0, .int .u64 b1] 33)) := (((Below.refl w.heap.size w).alloc (Nat.le_refl _) _).alloc (by simp <;> omega) _).alloc (by simp <;> omega) _
  obtain ⟨V0, hV0⟩ : ∃ V, (((w.alloc (.cells #[.int .i64 (s 0), .int .i64 (s 1), .int .i64 (s 2), .int .i64 (s 3), .int .i64 (s 4), .int .i64 (s 5), .int .i64 (s 6), .int .i64 (s 7), .slice SA sn sc, .int .i64 (s 9), .int .i64 (s 10), .int .i64 (s 11), .int .i64 (s 12)] 25)).alloc (.cells #[.int .i64 p, .int .i64 d, .int .i64 md, .int .i64 le, .bool wa, .slice A n c] 29)).alloc (.cells #[.int .u64 a0, .int .u64 a1, .int .u64 b0, .int .u64 b1] 33)) = V := ⟨_, rfl⟩
  rw [hV0] at BS BC BL BE ⊢
  have HS := Lib.hid BS
  have HC := Lib.hid BC
  have HL := Lib.hid BL
  have EE := Lib.hid BE
  have ne0_1 : w.heap.size ≠ w.heap.size + 1 := by omega
  have ne0_2 : w.heap.size ≠ w.heap.size + 1 + 1 := by omega
  have ne1_0 : w.heap.size + 1 ≠ w.heap.size := by omega
  have ne1_2 : w.heap.size + 1 ≠ w.heap.size + 1 + 1 := by omega
  have ne2_0 : w.heap.size + 1 + 1 ≠ w.heap.size := by omega
  have ne2_1 : w.heap.size + 1 + 1 ≠ w.heap.size + 1 := by omega
  clear hV0 BE BS BC BL
  have kS0 : V0.cell? ⟨w.heap.size, 0, none⟩ = some (.int .i64 (s 0)) := HS.out.cell 0
  have kS1 : V0.cell? ⟨w.heap.size, 1, none⟩ = some (.int .i64 (s 1)) := HS.out.cell 1
  have kS2 : V0.cell? ⟨w.heap.size, 2, none⟩ = some (.int .i64 (s 2)) := HS.out.cell 2
  have kS3 : V0.cell? ⟨w.heap.size, 3, none⟩ = some (.int .i64 (s 3)) := HS.out.cell 3
  have kS4 : V0.cell? ⟨w.heap.size, 4, none⟩ = some (.int .i64 (s 4)) := HS.out.cell 4
  have kS5 : V0.cell? ⟨w.heap.size, 5, none⟩ = some (.int .i64 (s 5)) := HS.out.cell 5
  have kS6 : V0.cell? ⟨w.heap.size, 6, none⟩ = some (.int .i64 (s 6)) := HS.out.cell 6
  have kS7 : V0.cell? ⟨w.heap.size, 7, none⟩ = some (.int .i64 (s 7)) := HS.out.cell 7
  have kS8 : V0.cell? ⟨w.heap.size, 8, none⟩ = some (.slice SA sn sc) := HS.out.cell 8
  have kS9 : V0.cell? ⟨w.heap.size, 9, none⟩ = some (.int .i64 (s 9)) := HS.out.cell 9
  have kS10 : V0.cell? ⟨w.heap.size, 10, none⟩ = some (.int .i64 (s 10)) := HS.out.cell 10
  have kS11 : V0.cell? ⟨w.heap.size, 11, none⟩ = some (.int .i64 (s 11)) := HS.out.cell 11
  have kS12 : V0.cell? ⟨w.heap.size, 12, none⟩ = some (.int .i64 (s 12)) := HS.out.cell 12
  have kC0 : V0.cell? ⟨w.heap.size + 1, 0, none⟩ = some (.int .i64 p) := HC.out.cell 0
  have kC1 : V0.cell? ⟨w.heap.size + 1, 1, none⟩ = some (.int .i64 d) := HC.out.cell 1
  have kC2 : V0.cell? ⟨w.heap.size + 1, 2, none⟩ = some (.int .i64 md) := HC.out.cell 2
  have kC3 : V0.cell? ⟨w.heap.size + 1, 3, none⟩ = some (.int .i64 le) := HC.out.cell 3
  have kC4 : V0.cell? ⟨w.heap.size + 1, 4, none⟩ = some (.bool wa) := HC.out.cell 4
  have kC5 : V0.cell? ⟨w.heap.size + 1, 5, none⟩ = some (.slice A n c) := HC.out.cell 5
  have kL0 : V0.cell? ⟨w.heap.size + 1 + 1, 0, none⟩ = some (.int .u64 a0) := HL.out.cell 0
  have kL1 : V0.cell? ⟨w.heap.size + 1 + 1, 1, none⟩ = some (.int .u64 a1) := HL.out.cell 1
  have kL2 : V0.cell? ⟨w.heap.size + 1 + 1, 2, none⟩ = some (.int .u64 b0) := HL.out.cell 2
  have kL3 : V0.cell? ⟨w.heap.size + 1 + 1, 3, none⟩ = some (.int .u64 b1) := HL.out.cell 3
  refine (FI.out _ (HSZ.out.kept EE.out) (HRd.out.kept EE.out)).mono ?_
  rintro e v1 ⟨b, rfl, hb, hF⟩
  clear kS0 kS1 kS2 kS3 kS4 kS5 kS6 kS7 kS8 kS9 kS10 kS11 kS12 kC0 kC1 kC2 kC3 kC4 kC5 kL0 kL1 kL2 kL3
  have HS := Lib.hid (Blk.next (w := V0) HS.out hb)
  have HC := Lib.hid (Blk.next (w := V0) HC.out hb)
  have HL := Lib.hid (Blk.next (w := V0) HL.out hb)
  have EE := Lib.hid (EE.out.trans (hb.mono EE.out.size))
  clear hb
  have kS0 : v1.cell? ⟨w.heap.size, 0, none⟩ = some (.int .i64 (s 0)) := HS.out.cell 0
  have kS1 : v1.cell? ⟨w.heap.size, 1, none⟩ = some (.int .i64 (s 1)) := HS.out.cell 1
  have kS2 : v1.cell? ⟨w.heap.size, 2, none⟩ = some (.int .i64 (s 2)) := HS.out.cell 2
  have kS3 : v1.cell? ⟨w.heap.size, 3, none⟩ = some (.int .i64 (s 3)) := HS.out.cell 3
  have kS4 : v1.cell? ⟨w.heap.size, 4, none⟩ = some (.int .i64 (s 4)) := HS.out.cell 4
  have kS5 : v1.cell? ⟨w.heap.size, 5, none⟩ = some (.int .i64 (s 5)) := HS.out.cell 5
  have kS6 : v1.cell? ⟨w.heap.size, 6, none⟩ = some (.int .i64 (s 6)) := HS.out.cell 6
  have kS7 : v1.cell? ⟨w.heap.size, 7, none⟩ = some (.int .i64 (s 7)) := HS.out.cell 7
  have kS8 : v1.cell? ⟨w.heap.size, 8, none⟩ = some (.slice SA sn sc) := HS.out.cell 8
  have kS9 : v1.cell? ⟨w.heap.size, 9, none⟩ = some (.int .i64 (s 9)) := HS.out.cell 9
  have kS10 : v1.cell? ⟨w.heap.size, 10, none⟩ = some (.int .i64 (s 10)) := HS.out.cell 10
  have kS11 : v1.cell? ⟨w.heap.size, 11, none⟩ = some (.int .i64 (s 11)) := HS.out.cell 11
  have kS12 : v1.cell? ⟨w.heap.size, 12, none⟩ = some (.int .i64 (s 12)) := HS.out.cell 12
  have kC0 : v1.cell? ⟨w.heap.size + 1, 0, none⟩ = some (.int .i64 p) := HC.out.cell 0
  have kC1 : v1.cell? ⟨w.heap.size + 1, 1, none⟩ = some (.int .i64 d) := HC.out.cell 1
  have kC2 : v1.cell? ⟨w.heap.size + 1, 2, none⟩ = some (.int .i64 md) := HC.out.cell 2
  have kC3 : v1.cell? ⟨w.heap.size + 1, 3, none⟩ = some (.int .i64 le) := HC.out.cell 3
  have kC4 : v1.cell? ⟨w.heap.size + 1, 4, none⟩ = some (.bool wa) := HC.out.cell 4
  have kC5 : v1.cell? ⟨w.heap.size + 1, 5, none⟩ = some (.slice A n c) := HC.out.cell 5
  have kL0 : v1.cell? ⟨w.heap.size + 1 + 1, 0, none⟩ = some (.int .u64 a0) := HL.out.cell 0
  have kL1 : v1.cell? ⟨w.heap.size + 1 + 1, 1, none⟩ = some (.int .u64 a1) := HL.out.cell 1
  have kL2 : v1.cell? ⟨w.heap.size + 1 + 1, 2, none⟩ = some (.int .u64 b0) := HL.out.cell 2
  have kL3 : v1.cell? ⟨w.heap.size + 1 + 1, 3, none⟩ = some (.int .u64 b1) := HL.out.cell 3
  cases b
  · clear hF
    go_wp2_with fail
    go_ret
    exact ⟨rfl, EE.out⟩
  · obtain ⟨HB, hq0, hq1, hq2⟩ := hF rfl
    have HBh := Lib.hid HB
    have IC := HB.car
    obtain ⟨p0, p1, d0, d1, m0, m1, l0, l1, k1⟩ := IC
    have s00 := HB.s00; have s01 := HB.s01; have s10 := HB.s10; have s11 := HB.s11
    have P1 := Lib.hid p1
    have HDr := Lib.hid (show d = 0 ∨ d = 1 ∨ d = -1 by omega)
    clear HB p1 hF
    have hq := (hq2 (by omega) (by omega)).1
    clear hq0 hq1 hq2
    go_wp2_with fail
    refine (QD.out le _ HM.out).mono ?_
    rintro e v2 ⟨rfl, hb⟩
    clear kS0 kS1 kS2 kS3 kS4 kS5 kS6 kS7 kS8 kS9 kS10 kS11 kS12 kC0 kC1 kC2 kC3 kC4 kC5 kL0 kL1 kL2 kL3
    have HS := Lib.hid (Blk.next (w := v1) HS.out hb)
    have HC := Lib.hid (Blk.next (w := v1) HC.out hb)
    have HL := Lib.hid (Blk.next (w := v1) HL.out hb)
    have EE := Lib.hid (EE.out.trans (hb.mono EE.out.size))
    clear hb
    have kS0 : v2.cell? ⟨w.heap.size, 0, none⟩ = some (.int .i64 (s 0)) := HS.out.cell 0
    have kS1 : v2.cell? ⟨w.heap.size, 1, none⟩ = some (.int .i64 (s 1)) := HS.out.cell 1
    have kS2 : v2.cell? ⟨w.heap.size, 2, none⟩ = some (.int .i64 (s 2)) := HS.out.cell 2
    have kS3 : v2.cell? ⟨w.heap.size, 3, none⟩ = some (.int .i64 (s 3)) := HS.out.cell 3
    have kS4 : v2.cell? ⟨w.heap.size, 4, none⟩ = some (.int .i64 (s 4)) := HS.out.cell 4
    have kS5 : v2.cell? ⟨w.heap.size, 5, none⟩ = some (.int .i64 (s 5)) := HS.out.cell 5
    have kS6 : v2.cell? ⟨w.heap.size, 6, none⟩ = some (.int .i64 (s 6)) := HS.out.cell 6
    have kS7 : v2.cell? ⟨w.heap.size, 7, none⟩ = some (.int .i64 (s 7)) := HS.out.cell 7
    have kS8 : v2.cell? ⟨w.heap.size, 8, none⟩ = some (.slice SA sn sc) := HS.out.cell 8
    have kS9 : v2.cell? ⟨w.heap.size, 9, none⟩ = some (.int .i64 (s 9)) := HS.out.cell 9
    have kS10 : v2.cell? ⟨w.heap.size, 10, none⟩ = some (.int .i64 (s 10)) := HS.out.cell 10
    have kS11 : v2.cell? ⟨w.heap.size, 11, none⟩ = some (.int .i64 (s 11)) := HS.out.cell 11
    have kS12 : v2.cell? ⟨w.heap.size, 12, none⟩ = some (.int .i64 (s 12)) := HS.out.cell 12
    have kC0 : v2.cell? ⟨w.heap.size + 1, 0, none⟩ = some (.int .i64 p) := HC.out.cell 0
    have kC1 : v2.cell? ⟨w.heap.size + 1, 1, none⟩ = some (.int .i64 d) := HC.out.cell 1
    have kC2 : v2.cell? ⟨w.heap.size + 1, 2, none⟩ = some (.int .i64 md) := HC.out.cell 2
    have kC3 : v2.cell? ⟨w.heap.size + 1, 3, none⟩ = some (.int .i64 le) := HC.out.cell 3
    have kC4 : v2.cell? ⟨w.heap.size + 1, 4, none⟩ = some (.bool wa) := HC.out.cell 4
    have kC5 : v2.cell? ⟨w.heap.size + 1, 5, none⟩ = some (.slice A n c) := HC.out.cell 5
    have kL0 : v2.cell? ⟨w.heap.size + 1 + 1, 0, none⟩ = some (.int .u64 a0) := HL.out.cell 0
    have kL1 : v2.cell? ⟨w.heap.size + 1 + 1, 1, none⟩ = some (.int .u64 a1) := HL.out.cell 1
    have kL2 : v2.cell? ⟨w.heap.size + 1 + 1, 2, none⟩ = some (.int .u64 b0) := HL.out.cell 2
    have kL3 : v2.cell? ⟨w.heap.size + 1 + 1, 3, none⟩ = some (.int .u64 b1) := HL.out.cell 3
    have lS := HS.out.lt
    have lC := HC.out.lt
    have lL := HL.out.lt
    go_wp2_with fail
    clear kS0 kS1 kS2 kS3 kS4 kS5 kS6 kS7 kS8 kS9 kS10 kS11 kS12 kC0 kC1 kC2 kC3 kC4 kC5 kL0 kL1 kL2 kL3 lS lC lL
    have GS : Blk (v2.alloc (.cells #[.int .i64 p, .int .i64 d, .int .i64 md, .int .i64 le, .bool wa, .slice A n c] 29)) (w.heap.size) 25 #[.int .i64 (s 0), .int .i64 (s 1), .int .i64 (s 2), .int .i64 (s 3), .int .i64 (s 4), .int .i64 (s 5), .int .i64 (s 6), .int .i64 (s 7), .slice SA sn sc, .int .i64 (s 9), .int .i64 (s 10), .int .i64 (s 11), .int .i64 (s 12)] := HS.out.alloc (.cells #[.int .i64 p, .int .i64 d, .int .i64 md, .int .i64 le, .bool wa, .slice A n c] 29)
    have GC : Blk (v2.alloc (.cells #[.int .i64 p, .int .i64 d, .int .i64 md, .int .i64 le, .bool wa, .slice A n c] 29)) (w.heap.size + 1) 29 #[.int .i64 p, .int .i64 d, .int .i64 md, .int .i64 le, .bool wa, .slice A n c] := HC.out.alloc (.cells #[.int .i64 p, .int .i64 d, .int .i64 md, .int .i64 le, .bool wa, .slice A n c] 29)
    have GL : Blk (v2.alloc (.cells #[.int .i64 p, .int .i64 d, .int .i64 md, .int .i64 le, .bool wa, .slice A n c] 29)) (w.heap.size + 1 + 1) 33 #[.int .u64 a0, .int .u64 a1, .int .u64 b0, .int .u64 b1] := HL.out.alloc (.cells #[.int .i64 p, .int .i64 d, .int .i64 md, .int .i64 le, .bool wa, .slice A n c] 29)
    have GX : Blk (v2.alloc (.cells #[.int .i64 p, .int .i64 d, .int .i64 md, .int .i64 le, .bool wa, .slice A n c] 29)) (v2.heap.size) 29 #[.int .i64 p, .int .i64 d, .int .i64 md, .int .i64 le, .bool wa, .slice A n c] := Blk.new v2 _ _
    have GE : Below w.heap.size w (v2.alloc (.cells #[.int .i64 p, .int .i64 d, .int .i64 md, .int .i64 le, .bool wa, .slice A n c] 29)) := EE.out.alloc EE.out.size (.cells #[.int .i64 p, .int .i64 d, .int .i64 md, .int .i64 le, .bool wa, .slice A n c] 29)
    obtain ⟨gx, hgx⟩ : ∃ g, v2.heap.size = g := ⟨_, rfl⟩
    have ne3_0 : gx ≠ w.heap.size := by have := HS.out.lt; omega
    have ne0_3 : w.heap.size ≠ gx := by have := HS.out.lt; omega
    have ne3_1 : gx ≠ w.heap.size + 1 := by have := HC.out.lt; omega
    have ne1_3 : w.heap.size + 1 ≠ gx := by have := HC.out.lt; omega
    have ne3_2 : gx ≠ w.heap.size + 1 + 1 := by have := HL.out.lt; omega
    have ne2_3 : w.heap.size + 1 + 1 ≠ gx := by have := HL.out.lt; omega
    have gegx : w.heap.size ≤ gx := by have := EE.out.size; omega
    rw [hgx] at GX ⊢
    clear hgx
    obtain ⟨v3, hv3⟩ : ∃ V, (v2.alloc (.cells #[.int .i64 p, .int .i64 d, .int .i64 md, .int .i64 le, .bool wa, .slice A n c] 29)) = V := ⟨_, rfl⟩
    rw [hv3] at GS GC GL GX GE ⊢
    have HS := Lib.hid GS
    have HC := Lib.hid GC
    have HL := Lib.hid GL
    have HX := Lib.hid GX
    have EE := Lib.hid GE
    clear hv3 GS GC GL GX GE
    have kS0 : v3.cell? ⟨w.heap.size, 0, none⟩ = some (.int .i64 (s 0)) := HS.out.cell 0
    have kS1 : v3.cell? ⟨w.heap.size, 1, none⟩ = some (.int .i64 (s 1)) := HS.out.cell 1
    have kS2 : v3.cell? ⟨w.heap.size, 2, none⟩ = some (.int .i64 (s 2)) := HS.out.cell 2
    have kS3 : v3.cell? ⟨w.heap.size, 3, none⟩ = some (.int .i64 (s 3)) := HS.out.cell 3
    have kS4 : v3.cell? ⟨w.heap.size, 4, none⟩ = some (.int .i64 (s 4)) := HS.out.cell 4
    have kS5 : v3.cell? ⟨w.heap.size, 5, none⟩ = some (.int .i64 (s 5)) := HS.out.cell 5
    have kS6 : v3.cell? ⟨w.heap.size, 6, none⟩ = some (.int .i64 (s 6)) := HS.out.cell 6
    have kS7 : v3.cell? ⟨w.heap.size, 7, none⟩ = some (.int .i64 (s 7)) := HS.out.cell 7
    have kS8 : v3.cell? ⟨w.heap.size, 8, none⟩ = some (.slice SA sn sc) := HS.out.cell 8
    have kS9 : v3.cell? ⟨w.heap.size, 9, none⟩ = some (.int .i64 (s 9)) := HS.out.cell 9
    have kS10 : v3.cell? ⟨w.heap.size, 10, none⟩ = some (.int .i64 (s 10)) := HS.out.cell 10
    have kS11 : v3.cell? ⟨w.heap.size, 11, none⟩ = some (.int .i64 (s 11)) := HS.out.cell 11
    have kS12 : v3.cell? ⟨w.heap.size, 12, none⟩ = some (.int .i64 (s 12)) := HS.out.cell 12
    have kC0 : v3.cell? ⟨w.heap.size + 1, 0, none⟩ = some (.int .i64 p) := HC.out.cell 0
    have kC1 : v3.cell? ⟨w.heap.size + 1, 1, none⟩ = some (.int .i64 d) := HC.out.cell 1
    have kC2 : v3.cell? ⟨w.heap.size + 1, 2, none⟩ = some (.int .i64 md) := HC.out.cell 2
    have kC3 : v3.cell? ⟨w.heap.size + 1, 3, none⟩ = some (.int .i64 le) := HC.out.cell 3
    have kC4 : v3.cell? ⟨w.heap.size + 1, 4, none⟩ = some (.bool wa) := HC.out.cell 4
    have kC5 : v3.cell? ⟨w.heap.size + 1, 5, none⟩ = some (.slice A n c) := HC.out.cell 5
    have kL0 : v3.cell? ⟨w.heap.size + 1 + 1, 0, none⟩ = some (.int .u64 a0) := HL.out.cell 0
    have kL1 : v3.cell? ⟨w.heap.size + 1 + 1, 1, none⟩ = some (.int .u64 a1) := HL.out.cell 1
    have kL2 : v3.cell? ⟨w.heap.size + 1 + 1, 2, none⟩ = some (.int .u64 b0) := HL.out.cell 2
    have kL3 : v3.cell? ⟨w.heap.size + 1 + 1, 3, none⟩ = some (.int .u64 b1) := HL.out.cell 3
    have kX0 : v3.cell? ⟨gx, 0, none⟩ = some (.int .i64 p) := HX.out.cell 0
    have kX1 : v3.cell? ⟨gx, 1, none⟩ = some (.int .i64 d) := HX.out.cell 1
    have kX2 : v3.cell? ⟨gx, 2, none⟩ = some (.int .i64 md) := HX.out.cell 2
    have kX3 : v3.cell? ⟨gx, 3, none⟩ = some (.int .i64 le) := HX.out.cell 3
    have kX4 : v3.cell? ⟨gx, 4, none⟩ = some (.bool wa) := HX.out.cell 4
    have kX5 : v3.cell? ⟨gx, 5, none⟩ = some (.slice A n c) := HX.out.cell 5
    go_loopw [10, 11, 12, 13] (fun kv _ _ _ wr => ∃ k : Nat, (k : Int) + 1 ≤ le ∧ kv = .int .i64 ((k : Int) + 1) ∧ Hid (Blk wr (w.heap.size) 25 #[.int .i64 (s 0), .int .i64 (s 1), .int .i64 (s 2), .int .i64 (s 3), .int .i64 (s 4), .int .i64 (s 5), .int .i64 (s 6), .int .i64 (s 7), .slice SA sn sc, .int .i64 (s 9), .int .i64 (s 10), .int .i64 (s 11), .int .i64 (s 12)]) ∧ Hid (Blk wr (w.heap.size + 1) 29 #[.int .i64 p, .int .i64 d, .int .i64 md, .int .i64 le, .bool wa, .slice A n c]) ∧ Hid (Blk wr (w.heap.size + 1 + 1) 33 #[.int .u64 a0, .int .u64 a1, .int .u64 b0, .int .u64 b1]) ∧ Hid (Blk wr (gx) 29 #[.int .i64 p, .int .i64 d, .int .i64 md, .int .i64 (le - (k : Int)), .bool wa, .slice A n c]) ∧ Below w.heap.size w wr) (fun kv _ _ _ _ => (le - intOf kv).toNat)
    case atStart => exact ⟨0, by omega, rfl, HS, HC, HL, Lib.hid (by simpa using HX.out), EE.out⟩
    case round =>
      obtain ⟨k, hk, rfl, HS', HC', HL', HX', hbE⟩ := hrel
      have hk0 : (0 : Int) ≤ (k : Int) := Int.natCast_nonneg _
      clear kS0 kS1 kS2 kS3 kS4 kS5 kS6 kS7 kS8 kS9 kS10 kS11 kS12 kC0 kC1 kC2 kC3 kC4 kC5 kL0 kL1 kL2 kL3 kX0 kX1 kX2 kX3 kX4 kX5
      have HS := HS'; have HC := HC'; have HL := HL'; have HX := HX'; have EE := Lib.hid hbE
      clear HS' HC' HL' HX' hbE
      have kS0 : wr.cell? ⟨w.heap.size, 0, none⟩ = some (.int .i64 (s 0)) := HS.out.cell 0
      have kS1 : wr.cell? ⟨w.heap.size, 1, none⟩ = some (.int .i64 (s 1)) := HS.out.cell 1
      have kS2 : wr.cell? ⟨w.heap.size, 2, none⟩ = some (.int .i64 (s 2)) := HS.out.cell 2
      have kS3 : wr.cell? ⟨w.heap.size, 3, none⟩ = some (.int .i64 (s 3)) := HS.out.cell 3
      have kS4 : wr.cell? ⟨w.heap.size, 4, none⟩ = some (.int .i64 (s 4)) := HS.out.cell 4
      have kS5 : wr.cell? ⟨w.heap.size, 5, none⟩ = some (.int .i64 (s 5)) := HS.out.cell 5
      have kS6 : wr.cell? ⟨w.heap.size, 6, none⟩ = some (.int .i64 (s 6)) := HS.out.cell 6
      have kS7 : wr.cell? ⟨w.heap.size, 7, none⟩ = some (.int .i64 (s 7)) := HS.out.cell 7
      have kS8 : wr.cell? ⟨w.heap.size, 8, none⟩ = some (.slice SA sn sc) := HS.out.cell 8
      have kS9 : wr.cell? ⟨w.heap.size, 9, none⟩ = some (.int .i64 (s 9)) := HS.out.cell 9
      have kS10 : wr.cell? ⟨w.heap.size, 10, none⟩ = some (.int .i64 (s 10)) := HS.out.cell 10
      have kS11 : wr.cell? ⟨w.heap.size, 11, none⟩ = some (.int .i64 (s 11)) := HS.out.cell 11
      have kS12 : wr.cell? ⟨w.heap.size, 12, none⟩ = some (.int .i64 (s 12)) := HS.out.cell 12
      have kC0 : wr.cell? ⟨w.heap.size + 1, 0, none⟩ = some (.int .i64 p) := HC.out.cell 0
      have kC1 : wr.cell? ⟨w.heap.size + 1, 1, none⟩ = some (.int .i64 d) := HC.out.cell 1
      have kC2 : wr.cell? ⟨w.heap.size + 1, 2, none⟩ = some (.int .i64 md) := HC.out.cell 2
      have kC3 : wr.cell? ⟨w.heap.size + 1, 3, none⟩ = some (.int .i64 le) := HC.out.cell 3
      have kC4 : wr.cell? ⟨w.heap.size + 1, 4, none⟩ = some (.bool wa) := HC.out.cell 4
      have kC5 : wr.cell? ⟨w.heap.size + 1, 5, none⟩ = some (.slice A n c) := HC.out.cell 5
      have kL0 : wr.cell? ⟨w.heap.size + 1 + 1, 0, none⟩ = some (.int .u64 a0) := HL.out.cell 0
      have kL1 : wr.cell? ⟨w.heap.size + 1 + 1, 1, none⟩ = some (.int .u64 a1) := HL.out.cell 1
      have kL2 : wr.cell? ⟨w.heap.size + 1 + 1, 2, none⟩ = some (.int .u64 b0) := HL.out.cell 2
      have kL3 : wr.cell? ⟨w.heap.size + 1 + 1, 3, none⟩ = some (.int .u64 b1) := HL.out.cell 3
      have kX0 : wr.cell? ⟨gx, 0, none⟩ = some (.int .i64 p) := HX.out.cell 0
      have jX0 : wr.frozen? ⟨gx, 0, none⟩ = false := HX.out.frozen 0
      have kX1 : wr.cell? ⟨gx, 1, none⟩ = some (.int .i64 d) := HX.out.cell 1
      have jX1 : wr.frozen? ⟨gx, 1, none⟩ = false := HX.out.frozen 1
      have kX2 : wr.cell? ⟨gx, 2, none⟩ = some (.int .i64 md) := HX.out.cell 2
      have jX2 : wr.frozen? ⟨gx, 2, none⟩ = false := HX.out.frozen 2
      have kX3 : wr.cell? ⟨gx, 3, none⟩ = some (.int .i64 (le - (k : Int))) := HX.out.cell 3
      have jX3 : wr.frozen? ⟨gx, 3, none⟩ = false := HX.out.frozen 3
      have kX4 : wr.cell? ⟨gx, 4, none⟩ = some (.bool wa) := HX.out.cell 4
      have jX4 : wr.frozen? ⟨gx, 4, none⟩ = false := HX.out.frozen 4
      have kX5 : wr.cell? ⟨gx, 5, none⟩ = some (.slice A n c) := HX.out.cell 5
      have jX5 : wr.frozen? ⟨gx, 5, none⟩ = false := HX.out.frozen 5
      by_cases h : (k : Int) + 1 < le
      · have hkI : (k : Int) + 1 ≤ 64 := by omega
        obtain ⟨h2, hh2⟩ : ∃ v, ((k : Int) + 1) / 2 = v := ⟨_, rfl⟩
        have h2b : 0 ≤ h2 ∧ h2 ≤ (k : Int) + 1 := by omega
        obtain ⟨h2c, h2d⟩ := h2b
        obtain ⟨g2, hg2⟩ : ∃ v, (k : Int) + 1 - h2 = v := ⟨_, rfl⟩
        have g2b : 0 ≤ g2 := by omega
        have A1 := fun w hr => AF.out le ((k : Int) + 1) A n c z w hr (by omega) (by omega) (by omega) (by omega) (by omega) HM.out
        rw [show le - ((k : Int) + 1) = le - (k : Int) - 1 by omega] at A1
        replace A1 := Lib.hid A1
        have A2 := Lib.hid (fun w hr => AF.out le h2 A n c z w hr (by omega) (by omega) (by omega) (by omega) (by omega) HM.out)
        have A3 := fun A c w hr => AF.out (le - h2) g2 A n c z w hr (by omega) (by omega) (by omega) (by omega) (by omega) HM.out
        rw [show le - h2 - g2 = le - (k : Int) - 1 by omega] at A3
        replace A3 := Lib.hid A3
        have b1' : -9223372036854775808 ≤ h2 ∧ h2 ≤ 9223372036854775807 := by omega
        have b2' : -9223372036854775808 ≤ g2 ∧ g2 ≤ 9223372036854775807 := by omega
        have b3' : -9223372036854775808 ≤ le - (k : Int) - 1 ∧ le - (k : Int) - 1 ≤ 9223372036854775807 := by omega
        have b4' : le - ((k : Int) + 1) = le - (k : Int) - 1 := by omega
        have b5' : (0 : Int) ≤ (k : Int) + 1 := by omega
        have q1 : IntKind.i64.wrap (Int.tdiv ((k : Int) + 1) 2) = h2 := by
          rw [Int.tdiv_eq_ediv_of_nonneg b5', hh2]; exact IntWalk.i64_in _ b1'
        have q3 : IntKind.i64.wrap ((k : Int) + 1 - h2) = g2 := by rw [hg2]; exact IntWalk.i64_in _ b2'
        have q4 : IntKind.i64.wrap (le - ((k : Int) + 1)) = le - (k : Int) - 1 := by rw [b4']; exact IntWalk.i64_in _ b3'
        clear b1' b2' b3' b4' b5'
        have q5 : (le - (k : Int) - 1 != le - (k : Int) - 1) = false := by simp
        clear hg2
        go_wp2_with fail
        clear kS0 kS1 kS2 kS3 kS4 kS5 kS6 kS7 kS8 kS9 kS10 kS11 kS12 kC0 kC1 kC2 kC3 kC4 kC5 kL0 kL1 kL2 kL3 kX0 jX0 kX1 jX1 kX2 jX2 kX3 jX3 kX4 jX4 kX5 jX5
        have GS : Blk (wr.setCell ⟨gx, 3, none⟩ (.int .i64 (le - (k : Int) - 1))) (w.heap.size) 25 #[.int .i64 (s 0), .int .i64 (s 1), .int .i64 (s 2), .int .i64 (s 3), .int .i64 (s 4), .int .i64 (s 5), .int .i64 (s 6), .int .i64 (s 7), .slice SA sn sc, .int .i64 (s 9), .int .i64 (s 10), .int .i64 (s 11), .int .i64 (s 12)] := (HS.out.far (p := ⟨gx, 3, none⟩) ne0_3 (.int .i64 (le - (k : Int) - 1)))
        have GC : Blk (wr.setCell ⟨gx, 3, none⟩ (.int .i64 (le - (k : Int) - 1))) (w.heap.size + 1) 29 #[.int .i64 p, .int .i64 d, .int .i64 md, .int .i64 le, .bool wa, .slice A n c] := (HC.out.far (p := ⟨gx, 3, none⟩) ne1_3 (.int .i64 (le - (k : Int) - 1)))
        have GL : Blk (wr.setCell ⟨gx, 3, none⟩ (.int .i64 (le - (k : Int) - 1))) (w.heap.size + 1 + 1) 33 #[.int .u64 a0, .int .u64 a1, .int .u64 b0, .int .u64 b1] := (HL.out.far (p := ⟨gx, 3, none⟩) ne2_3 (.int .i64 (le - (k : Int) - 1)))
        have GX : Blk (wr.setCell ⟨gx, 3, none⟩ (.int .i64 (le - (k : Int) - 1))) (gx) 29 #[.int .i64 p, .int .i64 d, .int .i64 md, .int .i64 (le - (k : Int) - 1), .bool wa, .slice A n c] := (HX.out.set 3 (.int .i64 (le - (k : Int) - 1)))
        have GE : Below w.heap.size w (wr.setCell ⟨gx, 3, none⟩ (.int .i64 (le - (k : Int) - 1))) := (EE.out.setCell (p := ⟨gx, 3, none⟩) (by show w.heap.size ≤ gx; omega) (.int .i64 (le - (k : Int) - 1)))
        obtain ⟨v4, hv4⟩ : ∃ V, (wr.setCell ⟨gx, 3, none⟩ (.int .i64 (le - (k : Int) - 1))) = V := ⟨_, rfl⟩
        rw [hv4] at GS GC GL GX GE ⊢
        have HS := Lib.hid GS
        have HC := Lib.hid GC
        have HL := Lib.hid GL
        have HX := Lib.hid GX
        have EE := Lib.hid GE
        clear hv4 GS GC GL GX GE
        have kS0 : v4.cell? ⟨w.heap.size, 0, none⟩ = some (.int .i64 (s 0)) := HS.out.cell 0
        have kS1 : v4.cell? ⟨w.heap.size, 1, none⟩ = some (.int .i64 (s 1)) := HS.out.cell 1
        have kS2 : v4.cell? ⟨w.heap.size, 2, none⟩ = some (.int .i64 (s 2)) := HS.out.cell 2
        have kS3 : v4.cell? ⟨w.heap.size, 3, none⟩ = some (.int .i64 (s 3)) := HS.out.cell 3
        have kS4 : v4.cell? ⟨w.heap.size, 4, none⟩ = some (.int .i64 (s 4)) := HS.out.cell 4
        have kS5 : v4.cell? ⟨w.heap.size, 5, none⟩ = some (.int .i64 (s 5)) := HS.out.cell 5
        have kS6 : v4.cell? ⟨w.heap.size, 6, none⟩ = some (.int .i64 (s 6)) := HS.out.cell 6
        have kS7 : v4.cell? ⟨w.heap.size, 7, none⟩ = some (.int .i64 (s 7)) := HS.out.cell 7
        have kS8 : v4.cell? ⟨w.heap.size, 8, none⟩ = some (.slice SA sn sc) := HS.out.cell 8
        have kS9 : v4.cell? ⟨w.heap.size, 9, none⟩ = some (.int .i64 (s 9)) := HS.out.cell 9
        have kS10 : v4.cell? ⟨w.heap.size, 10, none⟩ = some (.int .i64 (s 10)) := HS.out.cell 10
        have kS11 : v4.cell? ⟨w.heap.size, 11, none⟩ = some (.int .i64 (s 11)) := HS.out.cell 11
        have kS12 : v4.cell? ⟨w.heap.size, 12, none⟩ = some (.int .i64 (s 12)) := HS.out.cell 12
        have kC0 : v4.cell? ⟨w.heap.size + 1, 0, none⟩ = some (.int .i64 p) := HC.out.cell 0
        have kC1 : v4.cell? ⟨w.heap.size + 1, 1, none⟩ = some (.int .i64 d) := HC.out.cell 1
        have kC2 : v4.cell? ⟨w.heap.size + 1, 2, none⟩ = some (.int .i64 md) := HC.out.cell 2
        have kC3 : v4.cell? ⟨w.heap.size + 1, 3, none⟩ = some (.int .i64 le) := HC.out.cell 3
        have kC4 : v4.cell? ⟨w.heap.size + 1, 4, none⟩ = some (.bool wa) := HC.out.cell 4
        have kC5 : v4.cell? ⟨w.heap.size + 1, 5, none⟩ = some (.slice A n c) := HC.out.cell 5
        have kL0 : v4.cell? ⟨w.heap.size + 1 + 1, 0, none⟩ = some (.int .u64 a0) := HL.out.cell 0
        have kL1 : v4.cell? ⟨w.heap.size + 1 + 1, 1, none⟩ = some (.int .u64 a1) := HL.out.cell 1
        have kL2 : v4.cell? ⟨w.heap.size + 1 + 1, 2, none⟩ = some (.int .u64 b0) := HL.out.cell 2
        have kL3 : v4.cell? ⟨w.heap.size + 1 + 1, 3, none⟩ = some (.int .u64 b1) := HL.out.cell 3
        have kX0 : v4.cell? ⟨gx, 0, none⟩ = some (.int .i64 p) := HX.out.cell 0
        have jX0 : v4.frozen? ⟨gx, 0, none⟩ = false := HX.out.frozen 0
        have kX1 : v4.cell? ⟨gx, 1, none⟩ = some (.int .i64 d) := HX.out.cell 1
        have jX1 : v4.frozen? ⟨gx, 1, none⟩ = false := HX.out.frozen 1
        have kX2 : v4.cell? ⟨gx, 2, none⟩ = some (.int .i64 md) := HX.out.cell 2
        have jX2 : v4.frozen? ⟨gx, 2, none⟩ = false := HX.out.frozen 2
        have kX3 : v4.cell? ⟨gx, 3, none⟩ = some (.int .i64 (le - (k : Int) - 1)) := HX.out.cell 3
        have jX3 : v4.frozen? ⟨gx, 3, none⟩ = false := HX.out.frozen 3
        have kX4 : v4.cell? ⟨gx, 4, none⟩ = some (.bool wa) := HX.out.cell 4
        have jX4 : v4.frozen? ⟨gx, 4, none⟩ = false := HX.out.frozen 4
        have kX5 : v4.cell? ⟨gx, 5, none⟩ = some (.slice A n c) := HX.out.cell 5
        have jX5 : v4.frozen? ⟨gx, 5, none⟩ = false := HX.out.frozen 5
        refine (A1.out _ (HRd.out.kept EE.out)).mono ?_
        rintro e v5 ⟨B', e', rfl, hR', _, hb⟩
        have HN := Lib.hid hR'
        clear hR'
        clear kS0 kS1 kS2 kS3 kS4 kS5 kS6 kS7 kS8 kS9 kS10 kS11 kS12 kC0 kC1 kC2 kC3 kC4 kC5 kL0 kL1 kL2 kL3 kX0 jX0 kX1 jX1 kX2 jX2 kX3 jX3 kX4 jX4 kX5 jX5
        have HS := Lib.hid (Blk.next (w := v4) HS.out hb)
        have HC := Lib.hid (Blk.next (w := v4) HC.out hb)
        have HL := Lib.hid (Blk.next (w := v4) HL.out hb)
        have HX := Lib.hid (Blk.next (w := v4) HX.out hb)
        have EE := Lib.hid (EE.out.trans (hb.mono EE.out.size))
        clear hb
        have kS0 : v5.cell? ⟨w.heap.size, 0, none⟩ = some (.int .i64 (s 0)) := HS.out.cell 0
        have kS1 : v5.cell? ⟨w.heap.size, 1, none⟩ = some (.int .i64 (s 1)) := HS.out.cell 1
        have kS2 : v5.cell? ⟨w.heap.size, 2, none⟩ = some (.int .i64 (s 2)) := HS.out.cell 2
        have kS3 : v5.cell? ⟨w.heap.size, 3, none⟩ = some (.int .i64 (s 3)) := HS.out.cell 3
        have kS4 : v5.cell? ⟨w.heap.size, 4, none⟩ = some (.int .i64 (s 4)) := HS.out.cell 4
        have kS5 : v5.cell? ⟨w.heap.size, 5, none⟩ = some (.int .i64 (s 5)) := HS.out.cell 5
        have kS6 : v5.cell? ⟨w.heap.size, 6, none⟩ = some (.int .i64 (s 6)) := HS.out.cell 6
        have kS7 : v5.cell? ⟨w.heap.size, 7, none⟩ = some (.int .i64 (s 7)) := HS.out.cell 7
        have kS8 : v5.cell? ⟨w.heap.size, 8, none⟩ = some (.slice SA sn sc) := HS.out.cell 8
        have kS9 : v5.cell? ⟨w.heap.size, 9, none⟩ = some (.int .i64 (s 9)) := HS.out.cell 9
        have kS10 : v5.cell? ⟨w.heap.size, 10, none⟩ = some (.int .i64 (s 10)) := HS.out.cell 10
        have kS11 : v5.cell? ⟨w.heap.size, 11, none⟩ = some (.int .i64 (s 11)) := HS.out.cell 11
        have kS12 : v5.cell? ⟨w.heap.size, 12, none⟩ = some (.int .i64 (s 12)) := HS.out.cell 12
        have kC0 : v5.cell? ⟨w.heap.size + 1, 0, none⟩ = some (.int .i64 p) := HC.out.cell 0
        have kC1 : v5.cell? ⟨w.heap.size + 1, 1, none⟩ = some (.int .i64 d) := HC.out.cell 1
        have kC2 : v5.cell? ⟨w.heap.size + 1, 2, none⟩ = some (.int .i64 md) := HC.out.cell 2
        have kC3 : v5.cell? ⟨w.heap.size + 1, 3, none⟩ = some (.int .i64 le) := HC.out.cell 3
        have kC4 : v5.cell? ⟨w.heap.size + 1, 4, none⟩ = some (.bool wa) := HC.out.cell 4
        have kC5 : v5.cell? ⟨w.heap.size + 1, 5, none⟩ = some (.slice A n c) := HC.out.cell 5
        have kL0 : v5.cell? ⟨w.heap.size + 1 + 1, 0, none⟩ = some (.int .u64 a0) := HL.out.cell 0
        have kL1 : v5.cell? ⟨w.heap.size + 1 + 1, 1, none⟩ = some (.int .u64 a1) := HL.out.cell 1
        have kL2 : v5.cell? ⟨w.heap.size + 1 + 1, 2, none⟩ = some (.int .u64 b0) := HL.out.cell 2
        have kL3 : v5.cell? ⟨w.heap.size + 1 + 1, 3, none⟩ = some (.int .u64 b1) := HL.out.cell 3
        have kX0 : v5.cell? ⟨gx, 0, none⟩ = some (.int .i64 p) := HX.out.cell 0
        have jX0 : v5.frozen? ⟨gx, 0, none⟩ = false := HX.out.frozen 0
        have kX1 : v5.cell? ⟨gx, 1, none⟩ = some (.int .i64 d) := HX.out.cell 1
        have jX1 : v5.frozen? ⟨gx, 1, none⟩ = false := HX.out.frozen 1
        have kX2 : v5.cell? ⟨gx, 2, none⟩ = some (.int .i64 md) := HX.out.cell 2
        have jX2 : v5.frozen? ⟨gx, 2, none⟩ = false := HX.out.frozen 2
        have kX3 : v5.cell? ⟨gx, 3, none⟩ = some (.int .i64 (le - (k : Int) - 1)) := HX.out.cell 3
        have jX3 : v5.frozen? ⟨gx, 3, none⟩ = false := HX.out.frozen 3
        have kX4 : v5.cell? ⟨gx, 4, none⟩ = some (.bool wa) := HX.out.cell 4
        have jX4 : v5.frozen? ⟨gx, 4, none⟩ = false := HX.out.frozen 4
        have kX5 : v5.cell? ⟨gx, 5, none⟩ = some (.slice A n c) := HX.out.cell 5
        have jX5 : v5.frozen? ⟨gx, 5, none⟩ = false := HX.out.frozen 5
        have lS := HS.out.lt
        have lC := HC.out.lt
        have lL := HL.out.lt
        have lX := HX.out.lt
        go_wp2_with fail
        clear kS0 kS1 kS2 kS3 kS4 kS5 kS6 kS7 kS8 kS9 kS10 kS11 kS12 kC0 kC1 kC2 kC3 kC4 kC5 kL0 kL1 kL2 kL3 kX0 jX0 kX1 jX1 kX2 jX2 kX3 jX3 kX4 jX4 kX5 jX5 lS lC lL lX
        have GS : Blk (v5.alloc (.cells #[.int .i64 p, .int .i64 d, .int .i64 md, .int .i64 (le - (k : Int) - 1), .bool wa, .slice B' n e'] 29)) (w.heap.size) 25 #[.int .i64 (s 0), .int .i64 (s 1), .int .i64 (s 2), .int .i64 (s 3), .int .i64 (s 4), .int .i64 (s 5), .int .i64 (s 6), .int .i64 (s 7), .slice SA sn sc, .int .i64 (s 9), .int .i64 (s 10), .int .i64 (s 11), .int .i64 (s 12)] := HS.out.alloc (.cells #[.int .i64 p, .int .i64 d, .int .i64 md, .int .i64 (le - (k : Int) - 1), .bool wa, .slice B' n e'] 29)
        have GC : Blk (v5.alloc (.cells #[.int .i64 p, .int .i64 d, .int .i64 md, .int .i64 (le - (k : Int) - 1), .bool wa, .slice B' n e'] 29)) (w.heap.size + 1) 29 #[.int .i64 p, .int .i64 d, .int .i64 md, .int .i64 le, .bool wa, .slice A n c] := HC.out.alloc (.cells #[.int .i64 p, .int .i64 d, .int .i64 md, .int .i64 (le - (k : Int) - 1), .bool wa, .slice B' n e'] 29)
        have GL : Blk (v5.alloc (.cells #[.int .i64 p, .int .i64 d, .int .i64 md, .int .i64 (le - (k : Int) - 1), .bool wa, .slice B' n e'] 29)) (w.heap.size + 1 + 1) 33 #[.int .u64 a0, .int .u64 a1, .int .u64 b0, .int .u64 b1] := HL.out.alloc (.cells #[.int .i64 p, .int .i64 d, .int .i64 md, .int .i64 (le - (k : Int) - 1), .bool wa, .slice B' n e'] 29)
        have GX : Blk (v5.alloc (.cells #[.int .i64 p, .int .i64 d, .int .i64 md, .int .i64 (le - (k : Int) - 1), .bool wa, .slice B' n e'] 29)) (gx) 29 #[.int .i64 p, .int .i64 d, .int .i64 md, .int .i64 (le - (k : Int) - 1), .bool wa, .slice A n c] := HX.out.alloc (.cells #[.int .i64 p, .int .i64 d, .int .i64 md, .int .i64 (le - (k : Int) - 1), .bool wa, .slice B' n e'] 29)
        have GY : Blk (v5.alloc (.cells #[.int .i64 p, .int .i64 d, .int .i64 md, .int .i64 (le - (k : Int) - 1), .bool wa, .slice B' n e'] 29)) (v5.heap.size) 29 #[.int .i64 p, .int .i64 d, .int .i64 md, .int .i64 (le - (k : Int) - 1), .bool wa, .slice B' n e'] := Blk.new v5 _ _
        have GE : Below w.heap.size w (v5.alloc (.cells #[.int .i64 p, .int .i64 d, .int .i64 md, .int .i64 (le - (k : Int) - 1), .bool wa, .slice B' n e'] 29)) := EE.out.alloc EE.out.size (.cells #[.int .i64 p, .int .i64 d, .int .i64 md, .int .i64 (le - (k : Int) - 1), .bool wa, .slice B' n e'] 29)
        have GHN : RdZ (v5.alloc (.cells #[.int .i64 p, .int .i64 d, .int .i64 md, .int .i64 (le - (k : Int) - 1), .bool wa, .slice B' n e'] 29)) 2 B' n z := RdZ.kept (w := v5) HN.out ((Below.refl _ _).alloc (Nat.le_refl _) (.cells #[.int .i64 p, .int .i64 d, .int .i64 md, .int .i64 (le - (k : Int) - 1), .bool wa, .slice B' n e'] 29))
        obtain ⟨gy, hgy⟩ : ∃ g, v5.heap.size = g := ⟨_, rfl⟩
        have ne4_0 : gy ≠ w.heap.size := by have := HS.out.lt; omega
        have ne0_4 : w.heap.size ≠ gy := by have := HS.out.lt; omega
        have ne4_1 : gy ≠ w.heap.size + 1 := by have := HC.out.lt; omega
        have ne1_4 : w.heap.size + 1 ≠ gy := by have := HC.out.lt; omega
        have ne4_2 : gy ≠ w.heap.size + 1 + 1 := by have := HL.out.lt; omega
        have ne2_4 : w.heap.size + 1 + 1 ≠ gy := by have := HL.out.lt; omega
        have ne4_3 : gy ≠ gx := by have := HX.out.lt; omega
        have ne3_4 : gx ≠ gy := by have := HX.out.lt; omega
        have gegy : w.heap.size ≤ gy := by have := EE.out.size; omega
        rw [hgy] at GY ⊢
        clear hgy
        obtain ⟨v6, hv6⟩ : ∃ V, (v5.alloc (.cells #[.int .i64 p, .int .i64 d, .int .i64 md, .int .i64 (le - (k : Int) - 1), .bool wa, .slice B' n e'] 29)) = V := ⟨_, rfl⟩
        rw [hv6] at GS GC GL GX GY GHN GE ⊢
        have HS := Lib.hid GS
        have HC := Lib.hid GC
        have HL := Lib.hid GL
        have HX := Lib.hid GX
        have HY := Lib.hid GY
        have HN := Lib.hid GHN
        have EE := Lib.hid GE
        clear hv6 GS GC GL GX GY GHN GE
        have kS0 : v6.cell? ⟨w.heap.size, 0, none⟩ = some (.int .i64 (s 0)) := HS.out.cell 0
        have kS1 : v6.cell? ⟨w.heap.size, 1, none⟩ = some (.int .i64 (s 1)) := HS.out.cell 1
        have kS2 : v6.cell? ⟨w.heap.size, 2, none⟩ = some (.int .i64 (s 2)) := HS.out.cell 2
        have kS3 : v6.cell? ⟨w.heap.size, 3, none⟩ = some (.int .i64 (s 3)) := HS.out.cell 3
        have kS4 : v6.cell? ⟨w.heap.size, 4, none⟩ = some (.int .i64 (s 4)) := HS.out.cell 4
        have kS5 : v6.cell? ⟨w.heap.size, 5, none⟩ = some (.int .i64 (s 5)) := HS.out.cell 5
        have kS6 : v6.cell? ⟨w.heap.size, 6, none⟩ = some (.int .i64 (s 6)) := HS.out.cell 6
        have kS7 : v6.cell? ⟨w.heap.size, 7, none⟩ = some (.int .i64 (s 7)) := HS.out.cell 7
        have kS8 : v6.cell? ⟨w.heap.size, 8, none⟩ = some (.slice SA sn sc) := HS.out.cell 8
        have kS9 : v6.cell? ⟨w.heap.size, 9, none⟩ = some (.int .i64 (s 9)) := HS.out.cell 9
        have kS10 : v6.cell? ⟨w.heap.size, 10, none⟩ = some (.int .i64 (s 10)) := HS.out.cell 10
        have kS11 : v6.cell? ⟨w.heap.size, 11, none⟩ = some (.int .i64 (s 11)) := HS.out.cell 11
        have kS12 : v6.cell? ⟨w.heap.size, 12, none⟩ = some (.int .i64 (s 12)) := HS.out.cell 12
        have kC0 : v6.cell? ⟨w.heap.size + 1, 0, none⟩ = some (.int .i64 p) := HC.out.cell 0
        have kC1 : v6.cell? ⟨w.heap.size + 1, 1, none⟩ = some (.int .i64 d) := HC.out.cell 1
        have kC2 : v6.cell? ⟨w.heap.size + 1, 2, none⟩ = some (.int .i64 md) := HC.out.cell 2
        have kC3 : v6.cell? ⟨w.heap.size + 1, 3, none⟩ = some (.int .i64 le) := HC.out.cell 3
        have kC4 : v6.cell? ⟨w.heap.size + 1, 4, none⟩ = some (.bool wa) := HC.out.cell 4
        have kC5 : v6.cell? ⟨w.heap.size + 1, 5, none⟩ = some (.slice A n c) := HC.out.cell 5
        have kL0 : v6.cell? ⟨w.heap.size + 1 + 1, 0, none⟩ = some (.int .u64 a0) := HL.out.cell 0
        have kL1 : v6.cell? ⟨w.heap.size + 1 + 1, 1, none⟩ = some (.int .u64 a1) := HL.out.cell 1
        have kL2 : v6.cell? ⟨w.heap.size + 1 + 1, 2, none⟩ = some (.int .u64 b0) := HL.out.cell 2
        have kL3 : v6.cell? ⟨w.heap.size + 1 + 1, 3, none⟩ = some (.int .u64 b1) := HL.out.cell 3
        have kX0 : v6.cell? ⟨gx, 0, none⟩ = some (.int .i64 p) := HX.out.cell 0
        have jX0 : v6.frozen? ⟨gx, 0, none⟩ = false := HX.out.frozen 0
        have kX1 : v6.cell? ⟨gx, 1, none⟩ = some (.int .i64 d) := HX.out.cell 1
        have jX1 : v6.frozen? ⟨gx, 1, none⟩ = false := HX.out.frozen 1
        have kX2 : v6.cell? ⟨gx, 2, none⟩ = some (.int .i64 md) := HX.out.cell 2
        have jX2 : v6.frozen? ⟨gx, 2, none⟩ = false := HX.out.frozen 2
        have kX3 : v6.cell? ⟨gx, 3, none⟩ = some (.int .i64 (le - (k : Int) - 1)) := HX.out.cell 3
        have jX3 : v6.frozen? ⟨gx, 3, none⟩ = false := HX.out.frozen 3
        have kX4 : v6.cell? ⟨gx, 4, none⟩ = some (.bool wa) := HX.out.cell 4
        have jX4 : v6.frozen? ⟨gx, 4, none⟩ = false := HX.out.frozen 4
        have kX5 : v6.cell? ⟨gx, 5, none⟩ = some (.slice A n c) := HX.out.cell 5
        have jX5 : v6.frozen? ⟨gx, 5, none⟩ = false := HX.out.frozen 5
        have kY0 : v6.cell? ⟨gy, 0, none⟩ = some (.int .i64 p) := HY.out.cell 0
        have kY1 : v6.cell? ⟨gy, 1, none⟩ = some (.int .i64 d) := HY.out.cell 1
        have kY2 : v6.cell? ⟨gy, 2, none⟩ = some (.int .i64 md) := HY.out.cell 2
        have kY3 : v6.cell? ⟨gy, 3, none⟩ = some (.int .i64 (le - (k : Int) - 1)) := HY.out.cell 3
        have kY4 : v6.cell? ⟨gy, 4, none⟩ = some (.bool wa) := HY.out.cell 4
        have kY5 : v6.cell? ⟨gy, 5, none⟩ = some (.slice B' n e') := HY.out.cell 5
        refine (QD.out (le - (k : Int) - 1) _ HM.out).mono ?_
        rintro e v7 ⟨rfl, hb⟩
        clear kS0 kS1 kS2 kS3 kS4 kS5 kS6 kS7 kS8 kS9 kS10 kS11 kS12 kC0 kC1 kC2 kC3 kC4 kC5 kL0 kL1 kL2 kL3 kX0 jX0 kX1 jX1 kX2 jX2 kX3 jX3 kX4 jX4 kX5 jX5 kY0 kY1 kY2 kY3 kY4 kY5
        have HS := Lib.hid (Blk.next (w := v6) HS.out hb)
        have HC := Lib.hid (Blk.next (w := v6) HC.out hb)
        have HL := Lib.hid (Blk.next (w := v6) HL.out hb)
        have HX := Lib.hid (Blk.next (w := v6) HX.out hb)
        have HY := Lib.hid (Blk.next (w := v6) HY.out hb)
        have HN : Hid (RdZ v7 2 B' n z) := Lib.hid (RdZ.kept (w := v6) HN.out hb)
        have EE := Lib.hid (EE.out.trans (hb.mono EE.out.size))
        clear hb
        have kS0 : v7.cell? ⟨w.heap.size, 0, none⟩ = some (.int .i64 (s 0)) := HS.out.cell 0
        have kS1 : v7.cell? ⟨w.heap.size, 1, none⟩ = some (.int .i64 (s 1)) := HS.out.cell 1
        have kS2 : v7.cell? ⟨w.heap.size, 2, none⟩ = some (.int .i64 (s 2)) := HS.out.cell 2
        have kS3 : v7.cell? ⟨w.heap.size, 3, none⟩ = some (.int .i64 (s 3)) := HS.out.cell 3
        have kS4 : v7.cell? ⟨w.heap.size, 4, none⟩ = some (.int .i64 (s 4)) := HS.out.cell 4
        have kS5 : v7.cell? ⟨w.heap.size, 5, none⟩ = some (.int .i64 (s 5)) := HS.out.cell 5
        have kS6 : v7.cell? ⟨w.heap.size, 6, none⟩ = some (.int .i64 (s 6)) := HS.out.cell 6
        have kS7 : v7.cell? ⟨w.heap.size, 7, none⟩ = some (.int .i64 (s 7)) := HS.out.cell 7
        have kS8 : v7.cell? ⟨w.heap.size, 8, none⟩ = some (.slice SA sn sc) := HS.out.cell 8
        have kS9 : v7.cell? ⟨w.heap.size, 9, none⟩ = some (.int .i64 (s 9)) := HS.out.cell 9
        have kS10 : v7.cell? ⟨w.heap.size, 10, none⟩ = some (.int .i64 (s 10)) := HS.out.cell 10
        have kS11 : v7.cell? ⟨w.heap.size, 11, none⟩ = some (.int .i64 (s 11)) := HS.out.cell 11
        have kS12 : v7.cell? ⟨w.heap.size, 12, none⟩ = some (.int .i64 (s 12)) := HS.out.cell 12
        have kC0 : v7.cell? ⟨w.heap.size + 1, 0, none⟩ = some (.int .i64 p) := HC.out.cell 0
        have kC1 : v7.cell? ⟨w.heap.size + 1, 1, none⟩ = some (.int .i64 d) := HC.out.cell 1
        have kC2 : v7.cell? ⟨w.heap.size + 1, 2, none⟩ = some (.int .i64 md) := HC.out.cell 2
        have kC3 : v7.cell? ⟨w.heap.size + 1, 3, none⟩ = some (.int .i64 le) := HC.out.cell 3
        have kC4 : v7.cell? ⟨w.heap.size + 1, 4, none⟩ = some (.bool wa) := HC.out.cell 4
        have kC5 : v7.cell? ⟨w.heap.size + 1, 5, none⟩ = some (.slice A n c) := HC.out.cell 5
        have kL0 : v7.cell? ⟨w.heap.size + 1 + 1, 0, none⟩ = some (.int .u64 a0) := HL.out.cell 0
        have kL1 : v7.cell? ⟨w.heap.size + 1 + 1, 1, none⟩ = some (.int .u64 a1) := HL.out.cell 1
        have kL2 : v7.cell? ⟨w.heap.size + 1 + 1, 2, none⟩ = some (.int .u64 b0) := HL.out.cell 2
        have kL3 : v7.cell? ⟨w.heap.size + 1 + 1, 3, none⟩ = some (.int .u64 b1) := HL.out.cell 3
        have kX0 : v7.cell? ⟨gx, 0, none⟩ = some (.int .i64 p) := HX.out.cell 0
        have jX0 : v7.frozen? ⟨gx, 0, none⟩ = false := HX.out.frozen 0
        have kX1 : v7.cell? ⟨gx, 1, none⟩ = some (.int .i64 d) := HX.out.cell 1
        have jX1 : v7.frozen? ⟨gx, 1, none⟩ = false := HX.out.frozen 1
        have kX2 : v7.cell? ⟨gx, 2, none⟩ = some (.int .i64 md) := HX.out.cell 2
        have jX2 : v7.frozen? ⟨gx, 2, none⟩ = false := HX.out.frozen 2
        have kX3 : v7.cell? ⟨gx, 3, none⟩ = some (.int .i64 (le - (k : Int) - 1)) := HX.out.cell 3
        have jX3 : v7.frozen? ⟨gx, 3, none⟩ = false := HX.out.frozen 3
        have kX4 : v7.cell? ⟨gx, 4, none⟩ = some (.bool wa) := HX.out.cell 4
        have jX4 : v7.frozen? ⟨gx, 4, none⟩ = false := HX.out.frozen 4
        have kX5 : v7.cell? ⟨gx, 5, none⟩ = some (.slice A n c) := HX.out.cell 5
        have jX5 : v7.frozen? ⟨gx, 5, none⟩ = false := HX.out.frozen 5
        have kY0 : v7.cell? ⟨gy, 0, none⟩ = some (.int .i64 p) := HY.out.cell 0
        have kY1 : v7.cell? ⟨gy, 1, none⟩ = some (.int .i64 d) := HY.out.cell 1
        have kY2 : v7.cell? ⟨gy, 2, none⟩ = some (.int .i64 md) := HY.out.cell 2
        have kY3 : v7.cell? ⟨gy, 3, none⟩ = some (.int .i64 (le - (k : Int) - 1)) := HY.out.cell 3
        have kY4 : v7.cell? ⟨gy, 4, none⟩ = some (.bool wa) := HY.out.cell 4
        have kY5 : v7.cell? ⟨gy, 5, none⟩ = some (.slice B' n e') := HY.out.cell 5
        go_wp2_with fail
        have sK : ∀ X, Blk X (w.heap.size + 1) 29 #[.int .i64 p, .int .i64 d, .int .i64 md, .int .i64 le, .bool wa, .slice A n c] → Blk X (gx) 29 #[.int .i64 p, .int .i64 d, .int .i64 md, .int .i64 (le - (k : Int) - 1), .bool wa, .slice A n c] → Blk X (gy) 29 #[.int .i64 p, .int .i64 d, .int .i64 md, .int .i64 (le - (k : Int) - 1), .bool wa, .slice B' n e'] → (fun X => X.cell? ⟨w.heap.size + 1, 0, none⟩ = some (.int .i64 p) ∧ X.cell? ⟨w.heap.size + 1, 1, none⟩ = some (.int .i64 d) ∧ X.cell? ⟨w.heap.size + 1, 2, none⟩ = some (.int .i64 md) ∧ X.cell? ⟨w.heap.size + 1, 3, none⟩ = some (.int .i64 le) ∧ X.cell? ⟨w.heap.size + 1, 4, none⟩ = some (.bool wa) ∧ X.cell? ⟨w.heap.size + 1, 5, none⟩ = some (.slice A n c) ∧ X.cell? ⟨gx, 0, none⟩ = some (.int .i64 p) ∧ X.cell? ⟨gx, 1, none⟩ = some (.int .i64 d) ∧ X.cell? ⟨gx, 2, none⟩ = some (.int .i64 md) ∧ X.cell? ⟨gx, 3, none⟩ = some (.int .i64 (le - (k : Int) - 1)) ∧ X.cell? ⟨gx, 4, none⟩ = some (.bool wa) ∧ X.cell? ⟨gx, 5, none⟩ = some (.slice A n c) ∧ X.cell? ⟨gy, 0, none⟩ = some (.int .i64 p) ∧ X.cell? ⟨gy, 1, none⟩ = some (.int .i64 d) ∧ X.cell? ⟨gy, 2, none⟩ = some (.int .i64 md) ∧ X.cell? ⟨gy, 3, none⟩ = some (.int .i64 (le - (k : Int) - 1)) ∧ X.cell? ⟨gy, 4, none⟩ = some (.bool wa) ∧ X.cell? ⟨gy, 5, none⟩ = some (.slice B' n e')) X := fun X hC hX hY => ⟨hC.cell 0, hC.cell 1, hC.cell 2, hC.cell 3, hC.cell 4, hC.cell 5, hX.cell 0, hX.cell 1, hX.cell 2, hX.cell 3, hX.cell 4, hX.cell 5, hY.cell 0, hY.cell 1, hY.cell 2, hY.cell 3, hY.cell 4, hY.cell 5⟩
        have LS0 := Lib.hid (HS.out.drew)
        have LC0 := Lib.hid (HC.out.drew)
        have LL0 := Lib.hid (HL.out.drew)
        have LX0 := Lib.hid (HX.out.drew)
        have LY0 := Lib.hid (HY.out.drew)
        have E0 := Lib.hid (EE.out.drew)
        clear kS0 kS1 kS2 kS3 kS4 kS5 kS6 kS7 kS8 kS9 kS10 kS11 kS12 kC0 kC1 kC2 kC3 kC4 kC5 kL0 kL1 kL2 kL3 kX0 jX0 kX1 jX1 kX2 jX2 kX3 jX3 kX4 jX4 kX5 jX5 kY0 kY1 kY2 kY3 kY4 kY5
        refine wp_region_held_drew (S := (fun X => X.cell? ⟨w.heap.size + 1, 0, none⟩ = some (.int .i64 p) ∧ X.cell? ⟨w.heap.size + 1, 1, none⟩ = some (.int .i64 d) ∧ X.cell? ⟨w.heap.size + 1, 2, none⟩ = some (.int .i64 md) ∧ X.cell? ⟨w.heap.size + 1, 3, none⟩ = some (.int .i64 le) ∧ X.cell? ⟨w.heap.size + 1, 4, none⟩ = some (.bool wa) ∧ X.cell? ⟨w.heap.size + 1, 5, none⟩ = some (.slice A n c) ∧ X.cell? ⟨gx, 0, none⟩ = some (.int .i64 p) ∧ X.cell? ⟨gx, 1, none⟩ = some (.int .i64 d) ∧ X.cell? ⟨gx, 2, none⟩ = some (.int .i64 md) ∧ X.cell? ⟨gx, 3, none⟩ = some (.int .i64 (le - (k : Int) - 1)) ∧ X.cell? ⟨gx, 4, none⟩ = some (.bool wa) ∧ X.cell? ⟨gx, 5, none⟩ = some (.slice A n c) ∧ X.cell? ⟨gy, 0, none⟩ = some (.int .i64 p) ∧ X.cell? ⟨gy, 1, none⟩ = some (.int .i64 d) ∧ X.cell? ⟨gy, 2, none⟩ = some (.int .i64 md) ∧ X.cell? ⟨gy, 3, none⟩ = some (.int .i64 (le - (k : Int) - 1)) ∧ X.cell? ⟨gy, 4, none⟩ = some (.bool wa) ∧ X.cell? ⟨gy, 5, none⟩ = some (.slice B' n e'))) (by kernel_rfl) (sK _ LC0.out LX0.out LY0.out) (fun hHeld => ?_)
        clear hHeld
        refine wpAnyH_take (i := 0) (v := ?_) rfl (by kernel_rfl) (by kernel_rfl) (by kernel_rfl) (fun _ _ _ h => h) (Or.inl ⟨by rfl, ?_⟩) (sK _ LC0.out LX0.out LY0.out) ?_
        rotate_left
        · (intro wS hSw; (try dsimp only at hSw); go_simp; try with_reducible rfl)
        simp only [Act.put, List.getElem_toArray, List.getElem_cons_zero, List.getElem_cons_succ, List.setIfInBounds_toArray, List.set_cons_zero, List.set_cons_succ]
        refine wpAnyH_take (i := 1) (v := ?_) rfl (by kernel_rfl) (by kernel_rfl) (by kernel_rfl) (fun _ _ _ h => h) (Or.inl ⟨by rfl, ?_⟩) (sK _ LC0.out LX0.out LY0.out) ?_
        rotate_left
        · (intro wS hSw; (try dsimp only at hSw); go_simp; try with_reducible rfl)
        simp only [Act.put, List.getElem_toArray, List.getElem_cons_zero, List.getElem_cons_succ, List.setIfInBounds_toArray, List.set_cons_zero, List.set_cons_succ]
        refine wpAnyH_ready (rs := [2]) (by kernel_rfl) (by simp) ?_
        refine AllReadyH.cons rfl (fun K hK => ?_) AllReadyH.nil
        go_simp
        refine (RC.out (le - (k : Int) - 1) _ _ _ _ _ (rdZ_drew HN.out) (HRd.out.kept E0.out) (by omega)).mono ?_
        rintro e r1 ⟨rfl, hb⟩
        have LS1 := Lib.hid (LS0.out.next hb)
        have LC1 := Lib.hid (LC0.out.next hb)
        have LL1 := Lib.hid (LL0.out.next hb)
        have LX1 := Lib.hid (LX0.out.next hb)
        have LY1 := Lib.hid (LY0.out.next hb)
        have E1 := Lib.hid (E0.out.trans (hb.mono E0.out.size))
        clear hb
        go_wp2_with fail
        refine hK.out _ _ (sK _ LC1.out LX1.out LY1.out) (fun hHeld => ?_)
        clear hK K hHeld
        try simp only [Act.put, List.getElem_toArray, List.getElem_cons_zero, List.getElem_cons_succ, List.setIfInBounds_toArray, List.set_cons_zero, List.set_cons_succ]
        refine wpAnyH_take (i := 3) (v := ?_) rfl (by kernel_rfl) (by kernel_rfl) (by kernel_rfl) (fun _ _ _ h => h) (Or.inl ⟨by rfl, ?_⟩) (sK _ LC1.out LX1.out LY1.out) ?_
        rotate_left
        · (intro wS hSw; (try dsimp only at hSw); go_simp; try with_reducible rfl)
        simp only [Act.put, List.getElem_toArray, List.getElem_cons_zero, List.getElem_cons_succ, List.setIfInBounds_toArray, List.set_cons_zero, List.set_cons_succ]
        refine wpAnyH_take (i := 4) (v := ?_) rfl (by kernel_rfl) (by kernel_rfl) (by kernel_rfl) (fun _ _ _ h => h) (Or.inl ⟨by rfl, ?_⟩) (sK _ LC1.out LX1.out LY1.out) ?_
        rotate_left
        · (intro wS hSw; (try dsimp only at hSw); go_simp; try with_reducible rfl)
        simp only [Act.put, List.getElem_toArray, List.getElem_cons_zero, List.getElem_cons_succ, List.setIfInBounds_toArray, List.set_cons_zero, List.set_cons_succ]
        refine wpAnyH_take (i := 5) (v := ?_) rfl (by kernel_rfl) (by kernel_rfl) (by kernel_rfl) (fun _ _ _ h => h) (Or.inl ⟨by rfl, ?_⟩) (sK _ LC1.out LX1.out LY1.out) ?_
        rotate_left
        · (intro wS hSw; (try dsimp only at hSw); go_simp; try with_reducible rfl)
        simp only [Act.put, List.getElem_toArray, List.getElem_cons_zero, List.getElem_cons_succ, List.setIfInBounds_toArray, List.set_cons_zero, List.set_cons_succ]
        refine wpAnyH_take (i := 6) (v := ?_) rfl (by kernel_rfl) (by kernel_rfl) (by kernel_rfl) (fun _ _ _ h => h) (Or.inl ⟨by rfl, ?_⟩) (sK _ LC1.out LX1.out LY1.out) ?_
        rotate_left
        · (intro wS hSw; (try dsimp only at hSw); go_simp; try with_reducible rfl)
        simp only [Act.put, List.getElem_toArray, List.getElem_cons_zero, List.getElem_cons_succ, List.setIfInBounds_toArray, List.set_cons_zero, List.set_cons_succ]
        refine wpAnyH_take (i := 7) (v := ?_) rfl (by kernel_rfl) (by kernel_rfl) (by kernel_rfl) (fun _ _ _ h => h) (Or.inl ⟨by rfl, ?_⟩) (sK _ LC1.out LX1.out LY1.out) ?_
        rotate_left
        · (intro wS hSw; (try dsimp only at hSw); go_simp; try with_reducible rfl)
        simp only [Act.put, List.getElem_toArray, List.getElem_cons_zero, List.getElem_cons_succ, List.setIfInBounds_toArray, List.set_cons_zero, List.set_cons_succ]
        refine wpAnyH_take (i := 9) (v := ?_) rfl (by kernel_rfl) (by kernel_rfl) (by kernel_rfl) (fun _ _ _ h => h) (Or.inl ⟨by rfl, ?_⟩) (sK _ LC1.out LX1.out LY1.out) ?_
        rotate_left
        · (intro wS hSw; (try dsimp only at hSw); go_simp; try with_reducible rfl)
        simp only [Act.put, List.getElem_toArray, List.getElem_cons_zero, List.getElem_cons_succ, List.setIfInBounds_toArray, List.set_cons_zero, List.set_cons_succ]
        refine wpAnyH_take (i := 10) (v := ?_) rfl (by kernel_rfl) (by kernel_rfl) (by kernel_rfl) (fun _ _ _ h => h) (Or.inl ⟨by rfl, ?_⟩) (sK _ LC1.out LX1.out LY1.out) ?_
        rotate_left
        · (intro wS hSw; (try dsimp only at hSw); go_simp; try with_reducible rfl)
        simp only [Act.put, List.getElem_toArray, List.getElem_cons_zero, List.getElem_cons_succ, List.setIfInBounds_toArray, List.set_cons_zero, List.set_cons_succ]
        refine wpAnyH_take (i := 11) (v := ?_) rfl (by kernel_rfl) (by kernel_rfl) (by kernel_rfl) (fun _ _ _ h => h) (Or.inl ⟨by rfl, ?_⟩) (sK _ LC1.out LX1.out LY1.out) ?_
        rotate_left
        · (intro wS hSw; (try dsimp only at hSw); go_simp; try with_reducible rfl)
        simp only [Act.put, List.getElem_toArray, List.getElem_cons_zero, List.getElem_cons_succ, List.setIfInBounds_toArray, List.set_cons_zero, List.set_cons_succ]
        refine wpAnyH_take (i := 12) (v := ?_) rfl (by kernel_rfl) (by kernel_rfl) (by kernel_rfl) (fun _ _ _ h => h) (Or.inl ⟨by rfl, ?_⟩) (sK _ LC1.out LX1.out LY1.out) ?_
        rotate_left
        · (intro wS hSw; (try dsimp only at hSw); go_simp; try with_reducible rfl)
        simp only [Act.put, List.getElem_toArray, List.getElem_cons_zero, List.getElem_cons_succ, List.setIfInBounds_toArray, List.set_cons_zero, List.set_cons_succ]
        refine wpAnyH_take (i := 14) (v := ?_) rfl (by kernel_rfl) (by kernel_rfl) (by kernel_rfl) (fun _ _ _ h => h) (Or.inl ⟨by rfl, ?_⟩) (sK _ LC1.out LX1.out LY1.out) ?_
        rotate_left
        · (intro wS hSw; (try dsimp only at hSw); go_simp; try with_reducible rfl)
        simp only [Act.put, List.getElem_toArray, List.getElem_cons_zero, List.getElem_cons_succ, List.setIfInBounds_toArray, List.set_cons_zero, List.set_cons_succ]
        refine wpAnyH_ready (rs := [8]) (by kernel_rfl) (by simp) ?_
        refine AllReadyH.cons rfl (fun K hK => ?_) AllReadyH.nil
        go_simp
        refine (A2.out _ (HRd.out.kept E1.out)).mono ?_
        rintro e r2 ⟨B2, e2, rfl, hR', _, hb⟩
        have LS2 := Lib.hid (LS1.out.next hb)
        have LC2 := Lib.hid (LC1.out.next hb)
        have LL2 := Lib.hid (LL1.out.next hb)
        have LX2 := Lib.hid (LX1.out.next hb)
        have LY2 := Lib.hid (LY1.out.next hb)
        have E2 := Lib.hid (E1.out.trans (hb.mono E1.out.size))
        have HN2 := Lib.hid hR'
        clear hR'
        clear hb
        go_wp2_with fail
        refine hK.out _ _ (sK _ LC2.out LX2.out LY2.out) (fun hHeld => ?_)
        clear hK K hHeld
        try simp only [Act.put, List.getElem_toArray, List.getElem_cons_zero, List.getElem_cons_succ, List.setIfInBounds_toArray, List.set_cons_zero, List.set_cons_succ]
        refine wpAnyH_ready (rs := [13]) (by kernel_rfl) (by simp) ?_
        refine AllReadyH.cons rfl (fun K hK => ?_) AllReadyH.nil
        go_simp
        refine (A3.out _ _ _ HN2.out).mono ?_
        rintro e r3 ⟨B3, e3, rfl, hR', _, hb⟩
        have LS3 := Lib.hid (LS2.out.next hb)
        have LC3 := Lib.hid (LC2.out.next hb)
        have LL3 := Lib.hid (LL2.out.next hb)
        have LX3 := Lib.hid (LX2.out.next hb)
        have LY3 := Lib.hid (LY2.out.next hb)
        have E3 := Lib.hid (E2.out.trans (hb.mono E2.out.size))
        have HN3 := Lib.hid hR'
        clear hR'
        clear hb
        go_wp2_with fail
        refine hK.out _ _ (sK _ LC3.out LX3.out LY3.out) (fun hHeld => ?_)
        clear hK K hHeld
        try simp only [Act.put, List.getElem_toArray, List.getElem_cons_zero, List.getElem_cons_succ, List.setIfInBounds_toArray, List.set_cons_zero, List.set_cons_succ]
        refine wpAnyH_ready (rs := [15]) (by kernel_rfl) (by simp) ?_
        refine AllReadyH.cons rfl (fun K hK => ?_) AllReadyH.nil
        go_simp
        refine (RC.out (le - (k : Int) - 1) _ _ _ _ _ HN3.out (HRd.out.kept E3.out) (by omega)).mono ?_
        rintro e r4 ⟨rfl, hb⟩
        have LS4 := Lib.hid (LS3.out.next hb)
        have LC4 := Lib.hid (LC3.out.next hb)
        have LL4 := Lib.hid (LL3.out.next hb)
        have LX4 := Lib.hid (LX3.out.next hb)
        have LY4 := Lib.hid (LY3.out.next hb)
        have E4 := Lib.hid (E3.out.trans (hb.mono E3.out.size))
        clear hb
        go_wp2_with fail
        refine hK.out _ _ (sK _ LC4.out LX4.out LY4.out) (fun hHeld => ?_)
        clear hK K hHeld
        try simp only [Act.put, List.getElem_toArray, List.getElem_cons_zero, List.getElem_cons_succ, List.setIfInBounds_toArray, List.set_cons_zero, List.set_cons_succ]
        refine wpAnyH_take (i := 16) (v := ?_) rfl (by kernel_rfl) (by kernel_rfl) (by kernel_rfl) (fun _ _ _ h => h) (Or.inl ⟨by rfl, ?_⟩) (sK _ LC4.out LX4.out LY4.out) ?_
        rotate_left
        · (intro wS hSw; (try dsimp only at hSw); go_simp; try with_reducible rfl)
        simp only [Act.put, List.getElem_toArray, List.getElem_cons_zero, List.getElem_cons_succ, List.setIfInBounds_toArray, List.set_cons_zero, List.set_cons_succ]
        refine wpAnyH_take (i := 17) (v := ?_) rfl (by kernel_rfl) (by kernel_rfl) (by kernel_rfl) (fun _ _ _ h => h) (Or.inl ⟨by rfl, ?_⟩) (sK _ LC4.out LX4.out LY4.out) ?_
        rotate_left
        · (intro wS hSw; (try dsimp only at hSw); go_simp; try with_reducible rfl)
        simp only [Act.put, List.getElem_toArray, List.getElem_cons_zero, List.getElem_cons_succ, List.setIfInBounds_toArray, List.set_cons_zero, List.set_cons_succ]
        refine wpAnyH_take (i := 18) (v := ?_) rfl (by kernel_rfl) (by kernel_rfl) (by kernel_rfl) (fun _ _ _ h => h) (Or.inl ⟨by rfl, ?_⟩) (sK _ LC4.out LX4.out LY4.out) ?_
        rotate_left
        · (intro wS hSw; (try dsimp only at hSw); go_simp; try with_reducible rfl)
        simp only [Act.put, List.getElem_toArray, List.getElem_cons_zero, List.getElem_cons_succ, List.setIfInBounds_toArray, List.set_cons_zero, List.set_cons_succ]
        refine wpAnyH_take (i := 19) (v := ?_) rfl (by kernel_rfl) (by kernel_rfl) (by kernel_rfl) (fun _ _ _ h => h) (Or.inl ⟨by rfl, ?_⟩) (sK _ LC4.out LX4.out LY4.out) ?_
        rotate_left
        · (intro wS hSw; (try dsimp only at hSw); go_simp; try with_reducible rfl)
        simp only [Act.put, List.getElem_toArray, List.getElem_cons_zero, List.getElem_cons_succ, List.setIfInBounds_toArray, List.set_cons_zero, List.set_cons_succ]
        refine wpAnyH_take (i := 20) (v := ?_) rfl (by kernel_rfl) (by kernel_rfl) (by kernel_rfl) (fun _ _ _ h => h) (Or.inl ⟨by rfl, ?_⟩) (sK _ LC4.out LX4.out LY4.out) ?_
        rotate_left
        · (intro wS hSw; (try dsimp only at hSw); go_simp; try with_reducible rfl)
        simp only [Act.put, List.getElem_toArray, List.getElem_cons_zero, List.getElem_cons_succ, List.setIfInBounds_toArray, List.set_cons_zero, List.set_cons_succ]
        refine wpAnyH_take (i := 21) (v := ?_) rfl (by kernel_rfl) (by kernel_rfl) (by kernel_rfl) (fun _ _ _ h => h) (Or.inl ⟨by rfl, ?_⟩) (sK _ LC4.out LX4.out LY4.out) ?_
        rotate_left
        · (intro wS hSw; (try dsimp only at hSw); go_simp; try with_reducible rfl)
        simp only [Act.put, List.getElem_toArray, List.getElem_cons_zero, List.getElem_cons_succ, List.setIfInBounds_toArray, List.set_cons_zero, List.set_cons_succ]
        refine wpAnyH_take (i := 22) (v := ?_) rfl (by kernel_rfl) (by kernel_rfl) (by kernel_rfl) (fun _ _ _ h => h) (Or.inl ⟨by rfl, ?_⟩) (sK _ LC4.out LX4.out LY4.out) ?_
        rotate_left
        · (intro wS hSw; (try dsimp only at hSw); go_simp; try with_reducible rfl)
        simp only [Act.put, List.getElem_toArray, List.getElem_cons_zero, List.getElem_cons_succ, List.setIfInBounds_toArray, List.set_cons_zero, List.set_cons_succ]
        refine wpAnyH_take (i := 23) (v := ?_) rfl (by kernel_rfl) (by kernel_rfl) (by kernel_rfl) (fun _ _ _ h => h) (Or.inl ⟨by rfl, ?_⟩) (sK _ LC4.out LX4.out LY4.out) ?_
        rotate_left
        · (intro wS hSw; (try dsimp only at hSw); go_simp; try with_reducible rfl)
        simp only [Act.put, List.getElem_toArray, List.getElem_cons_zero, List.getElem_cons_succ, List.setIfInBounds_toArray, List.set_cons_zero, List.set_cons_succ]
        refine wpAnyH_take (i := 24) (v := ?_) rfl (by kernel_rfl) (by kernel_rfl) (by kernel_rfl) (fun _ _ _ h => h) (Or.inl ⟨by rfl, ?_⟩) (sK _ LC4.out LX4.out LY4.out) ?_
        rotate_left
        · (intro wS hSw; (try dsimp only at hSw); go_simp; try with_reducible rfl)
        simp only [Act.put, List.getElem_toArray, List.getElem_cons_zero, List.getElem_cons_succ, List.setIfInBounds_toArray, List.set_cons_zero, List.set_cons_succ]
        refine wpAnyH_take (i := 25) (v := ?_) rfl (by kernel_rfl) (by kernel_rfl) (by kernel_rfl) (fun _ _ _ h => h) (Or.inl ⟨by rfl, ?_⟩) (sK _ LC4.out LX4.out LY4.out) ?_
        rotate_left
        · (intro wS hSw; (try dsimp only at hSw); go_simp; try with_reducible rfl)
        simp only [Act.put, List.getElem_toArray, List.getElem_cons_zero, List.getElem_cons_succ, List.setIfInBounds_toArray, List.set_cons_zero, List.set_cons_succ]
        refine wpAnyH_take (i := 26) (v := ?_) rfl (by kernel_rfl) (by kernel_rfl) (by kernel_rfl) (fun _ _ _ h => h) (Or.inl ⟨by rfl, ?_⟩) (sK _ LC4.out LX4.out LY4.out) ?_
        rotate_left
        · (intro wS hSw; (try dsimp only at hSw); go_simp; try with_reducible rfl)
        simp only [Act.put, List.getElem_toArray, List.getElem_cons_zero, List.getElem_cons_succ, List.setIfInBounds_toArray, List.set_cons_zero, List.set_cons_succ]
        refine wpAnyH_take (i := 27) (v := ?_) rfl (by kernel_rfl) (by kernel_rfl) (by kernel_rfl) (fun _ _ _ h => h) (Or.inl ⟨by rfl, ?_⟩) (sK _ LC4.out LX4.out LY4.out) ?_
        rotate_left
        · (intro wS hSw; (try dsimp only at hSw); go_simp; try with_reducible rfl)
        simp only [Act.put, List.getElem_toArray, List.getElem_cons_zero, List.getElem_cons_succ, List.setIfInBounds_toArray, List.set_cons_zero, List.set_cons_succ]
        refine wpAnyH_take (i := 28) (v := ?_) rfl (by kernel_rfl) (by kernel_rfl) (by kernel_rfl) (fun _ _ _ h => h) (Or.inl ⟨by rfl, ?_⟩) (sK _ LC4.out LX4.out LY4.out) ?_
        rotate_left
        · (intro wS hSw; (try dsimp only at hSw); go_simp; try with_reducible rfl)
        simp only [Act.put, List.getElem_toArray, List.getElem_cons_zero, List.getElem_cons_succ, List.setIfInBounds_toArray, List.set_cons_zero, List.set_cons_succ]
        refine wpAnyH_done (by kernel_rfl) ?_ _
        have ELL := E4
        go_wp2_with fail
        go_roundw
        case rel => exact ⟨k + 1, by omega, by go_num, LS4, LC4, LL4, Lib.hid (by rw [show le - ((k + 1 : Nat) : Int) = le - (k : Int) - 1 by omega]; exact LX4.out), E4.out⟩
        case measure => simp [intOf]; omega
      · have hke : (k : Int) + 1 = le := by omega
        have hlk : le - (k : Int) = 1 := by omega
        have A0 := Lib.hid (fun w hr => AF.out le 0 A n c z w hr (by omega) (by omega) (by omega) (by omega) (by omega) HM.out)
        rw [Int.sub_zero] at A0
        go_wp2_with fail
        have sK : ∀ X, Blk X (w.heap.size + 1) 29 #[.int .i64 p, .int .i64 d, .int .i64 md, .int .i64 le, .bool wa, .slice A n c] → Blk X (gx) 29 #[.int .i64 p, .int .i64 d, .int .i64 md, .int .i64 (le - (k : Int)), .bool wa, .slice A n c] → (fun X => X.cell? ⟨w.heap.size + 1, 0, none⟩ = some (.int .i64 p) ∧ X.cell? ⟨w.heap.size + 1, 1, none⟩ = some (.int .i64 d) ∧ X.cell? ⟨w.heap.size + 1, 2, none⟩ = some (.int .i64 md) ∧ X.cell? ⟨w.heap.size + 1, 3, none⟩ = some (.int .i64 le) ∧ X.cell? ⟨w.heap.size + 1, 4, none⟩ = some (.bool wa) ∧ X.cell? ⟨w.heap.size + 1, 5, none⟩ = some (.slice A n c) ∧ X.cell? ⟨gx, 0, none⟩ = some (.int .i64 p) ∧ X.cell? ⟨gx, 1, none⟩ = some (.int .i64 d) ∧ X.cell? ⟨gx, 2, none⟩ = some (.int .i64 md) ∧ X.cell? ⟨gx, 3, none⟩ = some (.int .i64 (le - (k : Int))) ∧ X.cell? ⟨gx, 4, none⟩ = some (.bool wa) ∧ X.cell? ⟨gx, 5, none⟩ = some (.slice A n c)) X := fun X hC hX => ⟨hC.cell 0, hC.cell 1, hC.cell 2, hC.cell 3, hC.cell 4, hC.cell 5, hX.cell 0, hX.cell 1, hX.cell 2, hX.cell 3, hX.cell 4, hX.cell 5⟩
        have LC0 := Lib.hid (HC.out.drew)
        have LX0 := Lib.hid (HX.out.drew)
        have E0 := Lib.hid (EE.out.drew)
        clear kS0 kS1 kS2 kS3 kS4 kS5 kS6 kS7 kS8 kS9 kS10 kS11 kS12 kC0 kC1 kC2 kC3 kC4 kC5 kL0 kL1 kL2 kL3 kX0 jX0 kX1 jX1 kX2 jX2 kX3 jX3 kX4 jX4 kX5 jX5
        refine wp_region_held_drew (S := (fun X => X.cell? ⟨w.heap.size + 1, 0, none⟩ = some (.int .i64 p) ∧ X.cell? ⟨w.heap.size + 1, 1, none⟩ = some (.int .i64 d) ∧ X.cell? ⟨w.heap.size + 1, 2, none⟩ = some (.int .i64 md) ∧ X.cell? ⟨w.heap.size + 1, 3, none⟩ = some (.int .i64 le) ∧ X.cell? ⟨w.heap.size + 1, 4, none⟩ = some (.bool wa) ∧ X.cell? ⟨w.heap.size + 1, 5, none⟩ = some (.slice A n c) ∧ X.cell? ⟨gx, 0, none⟩ = some (.int .i64 p) ∧ X.cell? ⟨gx, 1, none⟩ = some (.int .i64 d) ∧ X.cell? ⟨gx, 2, none⟩ = some (.int .i64 md) ∧ X.cell? ⟨gx, 3, none⟩ = some (.int .i64 (le - (k : Int))) ∧ X.cell? ⟨gx, 4, none⟩ = some (.bool wa) ∧ X.cell? ⟨gx, 5, none⟩ = some (.slice A n c))) (by kernel_rfl) (sK _ LC0.out LX0.out) (fun hHeld => ?_)
        clear hHeld
        refine wpAnyH_take (i := 0) (v := ?_) rfl (by kernel_rfl) (by kernel_rfl) (by kernel_rfl) (fun _ _ _ h => h) (Or.inl ⟨by rfl, ?_⟩) (sK _ LC0.out LX0.out) ?_
        rotate_left
        · (intro wS hSw; (try dsimp only at hSw); go_simp; try with_reducible rfl)
        simp only [Act.put, List.getElem_toArray, List.getElem_cons_zero, List.getElem_cons_succ, List.setIfInBounds_toArray, List.set_cons_zero, List.set_cons_succ]
        refine wpAnyH_take (i := 1) (v := ?_) rfl (by kernel_rfl) (by kernel_rfl) (by kernel_rfl) (fun _ _ _ h => h) (Or.inl ⟨by rfl, ?_⟩) (sK _ LC0.out LX0.out) ?_
        rotate_left
        · (intro wS hSw; (try dsimp only at hSw); go_simp; try with_reducible rfl)
        simp only [Act.put, List.getElem_toArray, List.getElem_cons_zero, List.getElem_cons_succ, List.setIfInBounds_toArray, List.set_cons_zero, List.set_cons_succ]
        refine wpAnyH_take (i := 2) (v := ?_) rfl (by kernel_rfl) (by kernel_rfl) (by kernel_rfl) (fun _ _ _ h => h) (Or.inl ⟨by rfl, ?_⟩) (sK _ LC0.out LX0.out) ?_
        rotate_left
        · (intro wS hSw; (try dsimp only at hSw); go_simp; try with_reducible rfl)
        simp only [Act.put, List.getElem_toArray, List.getElem_cons_zero, List.getElem_cons_succ, List.setIfInBounds_toArray, List.set_cons_zero, List.set_cons_succ]
        refine wpAnyH_take (i := 3) (v := ?_) rfl (by kernel_rfl) (by kernel_rfl) (by kernel_rfl) (fun _ _ _ h => h) (Or.inl ⟨by rfl, ?_⟩) (sK _ LC0.out LX0.out) ?_
        rotate_left
        · (intro wS hSw; (try dsimp only at hSw); go_simp; try with_reducible rfl)
        simp only [Act.put, List.getElem_toArray, List.getElem_cons_zero, List.getElem_cons_succ, List.setIfInBounds_toArray, List.set_cons_zero, List.set_cons_succ]
        refine wpAnyH_take (i := 4) (v := ?_) rfl (by kernel_rfl) (by kernel_rfl) (by kernel_rfl) (fun _ _ _ h => h) (Or.inl ⟨by rfl, ?_⟩) (sK _ LC0.out LX0.out) ?_
        rotate_left
        · (intro wS hSw; (try dsimp only at hSw); go_simp; try with_reducible rfl)
        simp only [Act.put, List.getElem_toArray, List.getElem_cons_zero, List.getElem_cons_succ, List.setIfInBounds_toArray, List.set_cons_zero, List.set_cons_succ]
        refine wpAnyH_take (i := 6) (v := ?_) rfl (by kernel_rfl) (by kernel_rfl) (by kernel_rfl) (fun _ _ _ h => h) (Or.inl ⟨by rfl, ?_⟩) (sK _ LC0.out LX0.out) ?_
        rotate_left
        · (intro wS hSw; (try dsimp only at hSw); go_simp; try with_reducible rfl)
        simp only [Act.put, List.getElem_toArray, List.getElem_cons_zero, List.getElem_cons_succ, List.setIfInBounds_toArray, List.set_cons_zero, List.set_cons_succ]
        refine wpAnyH_ready (rs := [5]) (by kernel_rfl) (by simp) ?_
        refine AllReadyH.cons rfl (fun K hK => ?_) AllReadyH.nil
        go_simp
        refine (A0.out _ (HRd.out.kept E0.out)).mono ?_
        rintro e r1 ⟨A', c', rfl, hR', hcc, hb⟩
        have LC1 := Lib.hid (LC0.out.next hb)
        have LX1 := Lib.hid (LX0.out.next hb)
        have E1 := Lib.hid (E0.out.trans (hb.mono E0.out.size))
        have HN := Lib.hid hR'
        clear hR' hcc
        clear hb
        go_wp2_with fail
        refine hK.out _ _ (sK _ LC1.out LX1.out) (fun hHeld => ?_)
        clear hK K hHeld
        try simp only [Act.put, List.getElem_toArray, List.getElem_cons_zero, List.getElem_cons_succ, List.setIfInBounds_toArray, List.set_cons_zero, List.set_cons_succ]
        refine wpAnyH_ready (rs := [7]) (by kernel_rfl) (by simp) ?_
        refine AllReadyH.cons rfl (fun K hK => ?_) AllReadyH.nil
        go_simp
        refine (RC.out le _ _ _ _ _ HN.out (HRd.out.kept E1.out) (by omega)).mono ?_
        rintro e r2 ⟨rfl, hb⟩
        have LC2 := Lib.hid (LC1.out.next hb)
        have LX2 := Lib.hid (LX1.out.next hb)
        have E2 := Lib.hid (E1.out.trans (hb.mono E1.out.size))
        clear hb
        go_wp2_with fail
        refine hK.out _ _ (sK _ LC2.out LX2.out) (fun hHeld => ?_)
        clear hK K hHeld
        try simp only [Act.put, List.getElem_toArray, List.getElem_cons_zero, List.getElem_cons_succ, List.setIfInBounds_toArray, List.set_cons_zero, List.set_cons_succ]
        refine wpAnyH_take (i := 8) (v := ?_) rfl (by kernel_rfl) (by kernel_rfl) (by kernel_rfl) (fun _ _ _ h => h) (Or.inl ⟨by rfl, ?_⟩) (sK _ LC2.out LX2.out) ?_
        rotate_left
        · (intro wS hSw; (try dsimp only at hSw); go_simp; try with_reducible rfl)
        simp only [Act.put, List.getElem_toArray, List.getElem_cons_zero, List.getElem_cons_succ, List.setIfInBounds_toArray, List.set_cons_zero, List.set_cons_succ]
        refine wpAnyH_take (i := 9) (v := ?_) rfl (by kernel_rfl) (by kernel_rfl) (by kernel_rfl) (fun _ _ _ h => h) (Or.inl ⟨by rfl, ?_⟩) (sK _ LC2.out LX2.out) ?_
        rotate_left
        · (intro wS hSw; (try dsimp only at hSw); go_simp; try with_reducible rfl)
        simp only [Act.put, List.getElem_toArray, List.getElem_cons_zero, List.getElem_cons_succ, List.setIfInBounds_toArray, List.set_cons_zero, List.set_cons_succ]
        refine wpAnyH_ready (rs := [10]) (by kernel_rfl) (by simp) ?_
        refine AllReadyH.cons rfl (fun K hK => ?_) AllReadyH.nil
        go_simp
        refine (qalive _).mono ?_
        rintro e r3 ⟨rfl, hb⟩
        have LC3 := Lib.hid (LC2.out.next hb)
        have LX3 := Lib.hid (LX2.out.next hb)
        have E3 := Lib.hid (E2.out.trans (hb.mono E2.out.size))
        clear hb
        go_wp2_with fail
        refine hK.out _ _ (sK _ LC3.out LX3.out) (fun hHeld => ?_)
        clear hK K hHeld
        try simp only [Act.put, List.getElem_toArray, List.getElem_cons_zero, List.getElem_cons_succ, List.setIfInBounds_toArray, List.set_cons_zero, List.set_cons_succ]
        refine wpAnyH_take (i := 11) (v := ?_) rfl (by kernel_rfl) (by kernel_rfl) (by kernel_rfl) (fun _ _ _ h => h) (Or.inl ⟨by rfl, ?_⟩) (sK _ LC3.out LX3.out) ?_
        rotate_left
        · (intro wS hSw; (try dsimp only at hSw); go_simp; try with_reducible rfl)
        simp only [Act.put, List.getElem_toArray, List.getElem_cons_zero, List.getElem_cons_succ, List.setIfInBounds_toArray, List.set_cons_zero, List.set_cons_succ]
        refine wpAnyH_take (i := 12) (v := ?_) rfl (by kernel_rfl) (by kernel_rfl) (by kernel_rfl) (fun _ _ _ h => h) (Or.inl ⟨by rfl, ?_⟩) (sK _ LC3.out LX3.out) ?_
        rotate_left
        · (intro wS hSw; (try dsimp only at hSw); go_simp; try with_reducible rfl)
        simp only [Act.put, List.getElem_toArray, List.getElem_cons_zero, List.getElem_cons_succ, List.setIfInBounds_toArray, List.set_cons_zero, List.set_cons_succ]
        refine wpAnyH_done (by kernel_rfl) ?_ _
        go_wp2_with fail
        go_ret
        exact ⟨by first | rfl | (simp; done), E3.out⟩
end Go.Proofs.Ytffcmfpadaebdaa
