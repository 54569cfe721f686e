/- QuietGoes: a car that stands. -/
import Derived.Test.YtffcmfpadaebdaaFaceB
import Derived.Test.YtffcmfpadaebdaaCarM
import Derived.Test.YtffcmfpadaebdaaWantM
import Derived.Test.YtffcmfpadaebdaaRows
import Derived.Test.YtffcmfpadaebdaaKitM
import Derived.Test.YtffcmfpadaebdaaBitM
import Derived.Laws.AppendOwnNone
import Derived.WalkKit
import Derived.OwnWalk
import Derived.Laws.MakeOwn
import Derived.Laws.OwnMore
import Derived.Deep.LoopGhost
import Derived.IntWalk
import Derived.Lib.Hide
import Derived.WalkSpells
import Derived.WalkLawsBesides
import Derived.Laws.CopyOwn
import Derived.Deep.QuietTactic
import Derived.Deep.RegionHeld3
import Derived.BigQuiet
import Derived.BigRegion
import Derived.Test.YtffcmfpadaebdaaMoveB
import Derived.Test.YtffcmfpadaebdaaFaceC
import Derived.Test.YtffcmfpadaebdaaFaceD
import Derived.Test.YtffcmfpadaebdaaNearH
import Derived.Test.YtffcmfpadaebdaaPlaceA
import Derived.Test.YtffcmfpadaebdaaMoveMath
import Derived.Test.YtffcmfpadaebdaaMoveC
import Derived.Maps.AppendAt
import Derived.Test.YtffcmfpadaebdaaMoveD
import Derived.Test.YtffcmfpadaebdaaMoveE
import Derived.Test.YtffcmfpadaebdaaMoveF
import Derived.Test.YtffcmfpadaebdaaMoveH
import Derived.Test.YtffcmfpadaebdaaMoveJ
import Derived.Test.YtffcmfpadaebdaaMoveK
import Derived.Test.YtffcmfpadaebdaaMoveL
import Derived.Test.YtffcmfpadaebdaaMoveN
import Derived.Test.YtffcmfpadaebdaaMoveO
namespace Go.Proofs.Ytffcmfpadaebdaa
open Go.RowKit
set_option linter.unusedSimpArgs false
set_option linter.unusedVariables false
set_option maxRecDepth 100000 in
set_option maxHeartbeats 40000000 in
theorem qg_idle (s : Nat → Int) (SA : Option Addr) (sn sc : Nat) (sz : Nat → Nat → Int) (p d le : Int) (wa : Bool) (A : Option Addr) (n c : Nat) (z : Nat → Nat → Int) (a0 a1 b0 b1 : Nat) (w : World) (hs : RdZ w 3 SA sn sz) (hr : RdZ w 2 A n z) (hp : (Lit.int .i64 p).wf = true) (hd : (Lit.int .i64 d).wf = true) (hle : (Lit.int .i64 le).wf = true) (hnc : n ≤ c) (hcm : c ≤ maxLen) (h0 : a0 < 18446744073709551616) (h1 : a1 < 18446744073709551616) (h2 : b0 < 18446744073709551616) (h3 : b1 < 18446744073709551616) :
    Calls Try.prog 6 #[scnV s SA sn sc, carV p d 0 le wa A n c, .agg #[.int .u64 a0, .int .u64 a1, .int .u64 b0, .int .u64 b1]] w fun e w' => e = .returned (.bool true) ∧ Below w.heap.size w w' := by
  have FI := fun w hs hr => fine_any s SA sn sc sz p d 0 le wa A n c z a0 a1 b0 b1 w hs hr hp hd (by decide) hle hnc hcm h0 h1 h2 h3
  have QI := fun q r w (hr : RdZ w 2 A n z) => qnext_idle s SA sn sc p d le wa A n c z (mem a0 a1) (mem b0 b1) q r w hr
  have RS := fun q r w (hr : RdZ w 2 A n z) => rstep_any s SA sn sc p d 0 le wa A n c z (mem a0 a1) (mem b0 b1) q r w hr
  rw [← setV_mem h0 h1, ← setV_mem h2 h3] at QI RS
  have HRd := Lib.hid hr
  have HSZ := Lib.hid hs
  clear hs hr hp hd hle h0 h1 h2 h3 hnc hcm
  unfold restB at QI
  unfold scnV carV at *
  replace FI := Lib.hid FI; replace QI := Lib.hid QI; replace RS := Lib.hid RS
  go_enter Try.func6, Try.ntmps6
  go_wp2_with fail
  have BS := ((Blk.new w #[.int .i64 (s 0), .int .i64 (s 1), .int .i64 (s 2), .int .i64 (s 3), .int .i64 (s 4), .int .i64 (s 5), .int .i64 (s 6), .int .i64 (s 7), .slice SA sn sc, .int .i64 (s 9), .int .i64 (s 10), .int .i64 (s 11), .int .i64 (s 12)] 25).alloc (.cells #[.int .i64 p, .int .i64 d, .int .i64 0, .int .i64 le, .bool wa, .slice A n c] 29)).alloc (.cells #[.int .u64 a0, .int .u64 a1, .int .u64 b0, .int .u64 b1] 33)
  have BC := (Blk.new (w.alloc (.cells #[.int .i64 (s 0), .int .i64 (s 1), .int .i64 (s 2), .int .i64 (s 3), .int .i64 (s 4), .int .i64 (s 5), .int .i64 (s 6), .int .i64 (s 7), .slice SA sn sc, .int .i64 (s 9), .int .i64 (s 10), .int .i64 (s 11), .int .i64 (s 12)] 25)) #[.int .i64 p, .int .i64 d, .int .i64 0, .int .i64 le, .bool wa, .slice A n c] 29).alloc (.cells #[.int .u64 a0, .int .u64 a1, .int .u64 b0, .int .u64 b1] 33)
  rw [World.size_alloc] at BC
  have BL := Blk.new ((w.alloc (.cells #[.int .i64 (s 0), .int .i64 (s 1), .int .i64 (s 2), .int .i64 (s 3), .int .i64 (s 4), .int .i64 (s 5), .int .i64 (s 6), .int .i64 (s 7), .slice SA sn sc, .int .i64 (s 9), .int .i64 (s 10), .int .i64 (s 11), .int .i64 (s 12)] 25)).alloc (.cells #[.int .i64 p, .int .i64 d, .int .i64 0, .int .i64 le, .bool wa, .slice A n c] 29)) #[.int .u64 a0, .int .u64 a1, .int .u64 b0, .int .u64 b1] 33
  rw [World.size_alloc, World.size_alloc] at BL
  have BE : Below w.heap.size w (((w.alloc (.cells #[.int .i64 (s 0), .int .i64 (s 1), .int .i64 (s 2), .int .i64 (s 3), .int .i64 (s 4), .int .i64 (s 5), .int .i64 (s 6), .int .i64 (s 7), .slice SA sn sc, .int .i64 (s 9), .int .i64 (s 10), .int .i64 (s 11), .int .i64 (s 12)] 25)).alloc (.cells #[.int .i64 p, .int .i64 d, .int .i64 0, .int .i64 le, .bool wa, .slice A n c] 29)).alloc (.cells #[.int .u64 a0, .int .u64 a1, .int .u64 b0, .int .u64 b1] 33)) := (((Below.refl w.heap.size w).alloc (Nat.le_refl _) _).alloc (by simp <;> omega) _).alloc (by simp <;> omega) _
  obtain ⟨V0, hV0⟩ : ∃ V, (((w.alloc (.cells #[.int .i64 (s 0), .int .i64 (s 1), .int .i64 (s 2), .int .i64 (s 3), .int .i64 (s 4), .int .i64 (s 5), .int .i64 (s 6), .int .i64 (s 7), .slice SA sn sc, .int .i64 (s 9), .int .i64 (s 10), .int .i64 (s 11), .int .i64 (s 12)] 25)).alloc (.cells #[.int .i64 p, .int .i64 d, .int .i64 0, .int .i64 le, .bool wa, .slice A n c] 29)).alloc (.cells #[.int .u64 a0, .int .u64 a1, .int .u64 b0, .int .u64 b1] 33)) = V := ⟨_, rfl⟩
  rw [hV0] at BS BC BL BE ⊢
  have HS := Lib.hid BS
  have HC := Lib.hid BC
  have HL := Lib.hid BL
  have EE := Lib.hid BE
  have ne0_1 : w.heap.size ≠ w.heap.size + 1 := by omega
  have ne0_2 : w.heap.size ≠ w.heap.size + 1 + 1 := by omega
  have ne1_0 : w.heap.size + 1 ≠ w.heap.size := by omega
  have ne1_2 : w.heap.size + 1 ≠ w.heap.size + 1 + 1 := by omega
  have ne2_0 : w.heap.size + 1 + 1 ≠ w.heap.size := by omega
  have ne2_1 : w.heap.size + 1 + 1 ≠ w.heap.size + 1 := by omega
  clear hV0 BE BS BC BL
  have kS0 : V0.cell? ⟨w.heap.size, 0, none⟩ = some (.int .i64 (s 0)) := HS.out.cell 0
  have kS1 : V0.cell? ⟨w.heap.size, 1, none⟩ = some (.int .i64 (s 1)) := HS.out.cell 1
  have kS2 : V0.cell? ⟨w.heap.size, 2, none⟩ = some (.int .i64 (s 2)) := HS.out.cell 2
  have kS3 : V0.cell? ⟨w.heap.size, 3, none⟩ = some (.int .i64 (s 3)) := HS.out.cell 3
  have kS4 : V0.cell? ⟨w.heap.size, 4, none⟩ = some (.int .i64 (s 4)) := HS.out.cell 4
  have kS5 : V0.cell? ⟨w.heap.size, 5, none⟩ = some (.int .i64 (s 5)) := HS.out.cell 5
  have kS6 : V0.cell? ⟨w.heap.size, 6, none⟩ = some (.int .i64 (s 6)) := HS.out.cell 6
  have kS7 : V0.cell? ⟨w.heap.size, 7, none⟩ = some (.int .i64 (s 7)) := HS.out.cell 7
  have kS8 : V0.cell? ⟨w.heap.size, 8, none⟩ = some (.slice SA sn sc) := HS.out.cell 8
  have kS9 : V0.cell? ⟨w.heap.size, 9, none⟩ = some (.int .i64 (s 9)) := HS.out.cell 9
  have kS10 : V0.cell? ⟨w.heap.size, 10, none⟩ = some (.int .i64 (s 10)) := HS.out.cell 10
  have kS11 : V0.cell? ⟨w.heap.size, 11, none⟩ = some (.int .i64 (s 11)) := HS.out.cell 11
  have kS12 : V0.cell? ⟨w.heap.size, 12, none⟩ = some (.int .i64 (s 12)) := HS.out.cell 12
  have kC0 : V0.cell? ⟨w.heap.size + 1, 0, none⟩ = some (.int .i64 p) := HC.out.cell 0
  have kC1 : V0.cell? ⟨w.heap.size + 1, 1, none⟩ = some (.int .i64 d) := HC.out.cell 1
  have kC2 : V0.cell? ⟨w.heap.size + 1, 2, none⟩ = some (.int .i64 0) := HC.out.cell 2
  have kC3 : V0.cell? ⟨w.heap.size + 1, 3, none⟩ = some (.int .i64 le) := HC.out.cell 3
  have kC4 : V0.cell? ⟨w.heap.size + 1, 4, none⟩ = some (.bool wa) := HC.out.cell 4
  have kC5 : V0.cell? ⟨w.heap.size + 1, 5, none⟩ = some (.slice A n c) := HC.out.cell 5
  have kL0 : V0.cell? ⟨w.heap.size + 1 + 1, 0, none⟩ = some (.int .u64 a0) := HL.out.cell 0
  have kL1 : V0.cell? ⟨w.heap.size + 1 + 1, 1, none⟩ = some (.int .u64 a1) := HL.out.cell 1
  have kL2 : V0.cell? ⟨w.heap.size + 1 + 1, 2, none⟩ = some (.int .u64 b0) := HL.out.cell 2
  have kL3 : V0.cell? ⟨w.heap.size + 1 + 1, 3, none⟩ = some (.int .u64 b1) := HL.out.cell 3
  refine (FI.out _ (HSZ.out.kept EE.out) (HRd.out.kept EE.out)).mono ?_
  rintro e v1 ⟨b, rfl, hb, hF⟩
  clear kS0 kS1 kS2 kS3 kS4 kS5 kS6 kS7 kS8 kS9 kS10 kS11 kS12 kC0 kC1 kC2 kC3 kC4 kC5 kL0 kL1 kL2 kL3
  have HS := Lib.hid (Blk.next (w := V0) HS.out hb)
  have HC := Lib.hid (Blk.next (w := V0) HC.out hb)
  have HL := Lib.hid (Blk.next (w := V0) HL.out hb)
  have EE := Lib.hid (EE.out.trans (hb.mono EE.out.size))
  clear hb
  have kS0 : v1.cell? ⟨w.heap.size, 0, none⟩ = some (.int .i64 (s 0)) := HS.out.cell 0
  have kS1 : v1.cell? ⟨w.heap.size, 1, none⟩ = some (.int .i64 (s 1)) := HS.out.cell 1
  have kS2 : v1.cell? ⟨w.heap.size, 2, none⟩ = some (.int .i64 (s 2)) := HS.out.cell 2
  have kS3 : v1.cell? ⟨w.heap.size, 3, none⟩ = some (.int .i64 (s 3)) := HS.out.cell 3
  have kS4 : v1.cell? ⟨w.heap.size, 4, none⟩ = some (.int .i64 (s 4)) := HS.out.cell 4
  have kS5 : v1.cell? ⟨w.heap.size, 5, none⟩ = some (.int .i64 (s 5)) := HS.out.cell 5
  have kS6 : v1.cell? ⟨w.heap.size, 6, none⟩ = some (.int .i64 (s 6)) := HS.out.cell 6
  have kS7 : v1.cell? ⟨w.heap.size, 7, none⟩ = some (.int .i64 (s 7)) := HS.out.cell 7
  have kS8 : v1.cell? ⟨w.heap.size, 8, none⟩ = some (.slice SA sn sc) := HS.out.cell 8
  have kS9 : v1.cell? ⟨w.heap.size, 9, none⟩ = some (.int .i64 (s 9)) := HS.out.cell 9
  have kS10 : v1.cell? ⟨w.heap.size, 10, none⟩ = some (.int .i64 (s 10)) := HS.out.cell 10
  have kS11 : v1.cell? ⟨w.heap.size, 11, none⟩ = some (.int .i64 (s 11)) := HS.out.cell 11
  have kS12 : v1.cell? ⟨w.heap.size, 12, none⟩ = some (.int .i64 (s 12)) := HS.out.cell 12
  have kC0 : v1.cell? ⟨w.heap.size + 1, 0, none⟩ = some (.int .i64 p) := HC.out.cell 0
  have kC1 : v1.cell? ⟨w.heap.size + 1, 1, none⟩ = some (.int .i64 d) := HC.out.cell 1
  have kC2 : v1.cell? ⟨w.heap.size + 1, 2, none⟩ = some (.int .i64 0) := HC.out.cell 2
  have kC3 : v1.cell? ⟨w.heap.size + 1, 3, none⟩ = some (.int .i64 le) := HC.out.cell 3
  have kC4 : v1.cell? ⟨w.heap.size + 1, 4, none⟩ = some (.bool wa) := HC.out.cell 4
  have kC5 : v1.cell? ⟨w.heap.size + 1, 5, none⟩ = some (.slice A n c) := HC.out.cell 5
  have kL0 : v1.cell? ⟨w.heap.size + 1 + 1, 0, none⟩ = some (.int .u64 a0) := HL.out.cell 0
  have kL1 : v1.cell? ⟨w.heap.size + 1 + 1, 1, none⟩ = some (.int .u64 a1) := HL.out.cell 1
  have kL2 : v1.cell? ⟨w.heap.size + 1 + 1, 2, none⟩ = some (.int .u64 b0) := HL.out.cell 2
  have kL3 : v1.cell? ⟨w.heap.size + 1 + 1, 3, none⟩ = some (.int .u64 b1) := HL.out.cell 3
  cases b
  · clear hF
    go_wp2_with fail
    go_ret
    exact ⟨rfl, EE.out⟩
  · obtain ⟨HB, hq0, hq1, hq2⟩ := hF rfl
    have HBh := Lib.hid HB
    have IC := HB.car
    obtain ⟨p0, p1, d0, d1, m0, m1, l0, l1, k1⟩ := IC
    have s00 := HB.s00; have s01 := HB.s01; have s10 := HB.s10; have s11 := HB.s11
    have P1 := Lib.hid p1
    have HDr := Lib.hid (show d = 0 ∨ d = 1 ∨ d = -1 by omega)
    clear HB p1 hF
    have hr0 : p % s 1 = 0 := by first | exact hq0 rfl | exact hq0 trivial | simpa using hq0
    clear hq0 hq1 hq2
    obtain ⟨qq, hq⟩ : ∃ q, p / s 1 = q := ⟨_, rfl⟩
    obtain ⟨r, hrr⟩ : ∃ r, p % s 1 = r := ⟨_, rfl⟩
    have ey : p = qq * s 1 + r := by rw [← hq, ← hrr, Int.mul_comm]; exact (Int.mul_ediv_add_emod p (s 1)).symm
    have r0 : 0 ≤ r := by rw [← hrr]; exact Int.emod_nonneg _ (by omega)
    have r1 : r < s 1 := by rw [← hrr]; exact Int.emod_lt_of_pos _ (by omega)
    have T1 : (s 0 - 1) * s 1 ≤ 127 * 16 := Int.mul_le_mul (by omega) (by omega) (by omega) (by omega)
    rw [hrr] at hr0
    have P2 := P1.out
    have MB := fun w hr => QI.out qq r w hr (by omega) s10 p0 (by omega) r0 r1 ey
    have RB := fun w hr => RS.out qq r w hr (by omega) s10 p0 (by omega) r0 r1 ey d0 d1 (by omega)
    clear QI RS P2 ey r0 r1 hrr T1 hq
    subst hr0
    obtain ⟨st, hst⟩ : ∃ b, stopB (rdF z n) (waF z n (s 3) (mem a0 a1) (mem b0 b1)) (laF n (s 3) (mem a0 a1)) (laF n (s 3) (mem b0 b1)) qq d = b := ⟨_, rfl⟩
    obtain ⟨o, ho⟩ : ∃ b, ofWay (waF z n (s 3) (mem a0 a1) (mem b0 b1)) (laF n (s 3) (mem a0 a1)) (laF n (s 3) (mem b0 b1)) qq d = b := ⟨_, rfl⟩
    simp only [hst, ho] at MB RB
    clear hst ho
    have KEY : (d = 0 ∧ st = false ∧ o = 0) ∨ ((d == 0) && (!st && (o == 0))) = false := by
      by_cases h1 : d = 0
      · cases st
        · by_cases h2 : o = 0
          · exact .inl ⟨h1, rfl, h2⟩
          · right; simp [h2]
        · right; simp
      · right; simp [h1]
    rcases KEY with ⟨h1, h2, h3⟩ | hk
    · subst h1; subst h2; subst h3
      simp only [BEq.rfl, Bool.not_false, Bool.and_self, Bool.and_true, Bool.true_and, if_true, Bool.not_true, stp, if_false, Int.add_zero, Bool.false_eq_true] at MB RB
      replace MB := Lib.hid MB; replace RB := Lib.hid RB
      have RC := fun w ha hb => rcar_any p 0 0 le wa A A n c c z w ha hb (by omega)
      unfold carV at RC
      replace RC := Lib.hid RC
      go_wp2_with fail
      refine (MB.out _ (HRd.out.kept EE.out)).mono ?_
      rintro e v2 ⟨rfl, hb⟩
      clear kS0 kS1 kS2 kS3 kS4 kS5 kS6 kS7 kS8 kS9 kS10 kS11 kS12 kC0 kC1 kC2 kC3 kC4 kC5 kL0 kL1 kL2 kL3
      have HS := Lib.hid (Blk.next (w := v1) HS.out hb)
      have HC := Lib.hid (Blk.next (w := v1) HC.out hb)
      have HL := Lib.hid (Blk.next (w := v1) HL.out hb)
      have EE := Lib.hid (EE.out.trans (hb.mono EE.out.size))
      clear hb
      have kS0 : v2.cell? ⟨w.heap.size, 0, none⟩ = some (.int .i64 (s 0)) := HS.out.cell 0
      have kS1 : v2.cell? ⟨w.heap.size, 1, none⟩ = some (.int .i64 (s 1)) := HS.out.cell 1
      have kS2 : v2.cell? ⟨w.heap.size, 2, none⟩ = some (.int .i64 (s 2)) := HS.out.cell 2
      have kS3 : v2.cell? ⟨w.heap.size, 3, none⟩ = some (.int .i64 (s 3)) := HS.out.cell 3
      have kS4 : v2.cell? ⟨w.heap.size, 4, none⟩ = some (.int .i64 (s 4)) := HS.out.cell 4
      have kS5 : v2.cell? ⟨w.heap.size, 5, none⟩ = some (.int .i64 (s 5)) := HS.out.cell 5
      have kS6 : v2.cell? ⟨w.heap.size, 6, none⟩ = some (.int .i64 (s 6)) := HS.out.cell 6
      have kS7 : v2.cell? ⟨w.heap.size, 7, none⟩ = some (.int .i64 (s 7)) := HS.out.cell 7
      have kS8 : v2.cell? ⟨w.heap.size, 8, none⟩ = some (.slice SA sn sc) := HS.out.cell 8
      have kS9 : v2.cell? ⟨w.heap.size, 9, none⟩ = some (.int .i64 (s 9)) := HS.out.cell 9
      have kS10 : v2.cell? ⟨w.heap.size, 10, none⟩ = some (.int .i64 (s 10)) := HS.out.cell 10
      have kS11 : v2.cell? ⟨w.heap.size, 11, none⟩ = some (.int .i64 (s 11)) := HS.out.cell 11
      have kS12 : v2.cell? ⟨w.heap.size, 12, none⟩ = some (.int .i64 (s 12)) := HS.out.cell 12
      have kC0 : v2.cell? ⟨w.heap.size + 1, 0, none⟩ = some (.int .i64 p) := HC.out.cell 0
      have kC1 : v2.cell? ⟨w.heap.size + 1, 1, none⟩ = some (.int .i64 0) := HC.out.cell 1
      have kC2 : v2.cell? ⟨w.heap.size + 1, 2, none⟩ = some (.int .i64 0) := HC.out.cell 2
      have kC3 : v2.cell? ⟨w.heap.size + 1, 3, none⟩ = some (.int .i64 le) := HC.out.cell 3
      have kC4 : v2.cell? ⟨w.heap.size + 1, 4, none⟩ = some (.bool wa) := HC.out.cell 4
      have kC5 : v2.cell? ⟨w.heap.size + 1, 5, none⟩ = some (.slice A n c) := HC.out.cell 5
      have kL0 : v2.cell? ⟨w.heap.size + 1 + 1, 0, none⟩ = some (.int .u64 a0) := HL.out.cell 0
      have kL1 : v2.cell? ⟨w.heap.size + 1 + 1, 1, none⟩ = some (.int .u64 a1) := HL.out.cell 1
      have kL2 : v2.cell? ⟨w.heap.size + 1 + 1, 2, none⟩ = some (.int .u64 b0) := HL.out.cell 2
      have kL3 : v2.cell? ⟨w.heap.size + 1 + 1, 3, none⟩ = some (.int .u64 b1) := HL.out.cell 3
      go_wp2_with fail
      have sK : ∀ X, Blk X (w.heap.size) 25 #[.int .i64 (s 0), .int .i64 (s 1), .int .i64 (s 2), .int .i64 (s 3), .int .i64 (s 4), .int .i64 (s 5), .int .i64 (s 6), .int .i64 (s 7), .slice SA sn sc, .int .i64 (s 9), .int .i64 (s 10), .int .i64 (s 11), .int .i64 (s 12)] → Blk X (w.heap.size + 1) 29 #[.int .i64 p, .int .i64 0, .int .i64 0, .int .i64 le, .bool wa, .slice A n c] → Blk X (w.heap.size + 1 + 1) 33 #[.int .u64 a0, .int .u64 a1, .int .u64 b0, .int .u64 b1] → (fun X => X.cell? ⟨w.heap.size, 0, none⟩ = some (.int .i64 (s 0)) ∧ X.cell? ⟨w.heap.size, 1, none⟩ = some (.int .i64 (s 1)) ∧ X.cell? ⟨w.heap.size, 2, none⟩ = some (.int .i64 (s 2)) ∧ X.cell? ⟨w.heap.size, 3, none⟩ = some (.int .i64 (s 3)) ∧ X.cell? ⟨w.heap.size, 4, none⟩ = some (.int .i64 (s 4)) ∧ X.cell? ⟨w.heap.size, 5, none⟩ = some (.int .i64 (s 5)) ∧ X.cell? ⟨w.heap.size, 6, none⟩ = some (.int .i64 (s 6)) ∧ X.cell? ⟨w.heap.size, 7, none⟩ = some (.int .i64 (s 7)) ∧ X.cell? ⟨w.heap.size, 8, none⟩ = some (.slice SA sn sc) ∧ X.cell? ⟨w.heap.size, 9, none⟩ = some (.int .i64 (s 9)) ∧ X.cell? ⟨w.heap.size, 10, none⟩ = some (.int .i64 (s 10)) ∧ X.cell? ⟨w.heap.size, 11, none⟩ = some (.int .i64 (s 11)) ∧ X.cell? ⟨w.heap.size, 12, none⟩ = some (.int .i64 (s 12)) ∧ X.cell? ⟨w.heap.size + 1, 0, none⟩ = some (.int .i64 p) ∧ X.cell? ⟨w.heap.size + 1, 1, none⟩ = some (.int .i64 0) ∧ X.cell? ⟨w.heap.size + 1, 2, none⟩ = some (.int .i64 0) ∧ X.cell? ⟨w.heap.size + 1, 3, none⟩ = some (.int .i64 le) ∧ X.cell? ⟨w.heap.size + 1, 4, none⟩ = some (.bool wa) ∧ X.cell? ⟨w.heap.size + 1, 5, none⟩ = some (.slice A n c) ∧ X.cell? ⟨w.heap.size + 1 + 1, 0, none⟩ = some (.int .u64 a0) ∧ X.cell? ⟨w.heap.size + 1 + 1, 1, none⟩ = some (.int .u64 a1) ∧ X.cell? ⟨w.heap.size + 1 + 1, 2, none⟩ = some (.int .u64 b0) ∧ X.cell? ⟨w.heap.size + 1 + 1, 3, none⟩ = some (.int .u64 b1)) X := fun X hS hC hL => ⟨hS.cell 0, hS.cell 1, hS.cell 2, hS.cell 3, hS.cell 4, hS.cell 5, hS.cell 6, hS.cell 7, hS.cell 8, hS.cell 9, hS.cell 10, hS.cell 11, hS.cell 12, hC.cell 0, hC.cell 1, hC.cell 2, hC.cell 3, hC.cell 4, hC.cell 5, hL.cell 0, hL.cell 1, hL.cell 2, hL.cell 3⟩
      have LS0 := Lib.hid (HS.out.drew)
      have LC0 := Lib.hid (HC.out.drew)
      have LL0 := Lib.hid (HL.out.drew)
      have E0 := Lib.hid (EE.out.drew)
      clear kS0 kS1 kS2 kS3 kS4 kS5 kS6 kS7 kS8 kS9 kS10 kS11 kS12 kC0 kC1 kC2 kC3 kC4 kC5 kL0 kL1 kL2 kL3
      refine wp_region_held_drew (S := (fun X => X.cell? ⟨w.heap.size, 0, none⟩ = some (.int .i64 (s 0)) ∧ X.cell? ⟨w.heap.size, 1, none⟩ = some (.int .i64 (s 1)) ∧ X.cell? ⟨w.heap.size, 2, none⟩ = some (.int .i64 (s 2)) ∧ X.cell? ⟨w.heap.size, 3, none⟩ = some (.int .i64 (s 3)) ∧ X.cell? ⟨w.heap.size, 4, none⟩ = some (.int .i64 (s 4)) ∧ X.cell? ⟨w.heap.size, 5, none⟩ = some (.int .i64 (s 5)) ∧ X.cell? ⟨w.heap.size, 6, none⟩ = some (.int .i64 (s 6)) ∧ X.cell? ⟨w.heap.size, 7, none⟩ = some (.int .i64 (s 7)) ∧ X.cell? ⟨w.heap.size, 8, none⟩ = some (.slice SA sn sc) ∧ X.cell? ⟨w.heap.size, 9, none⟩ = some (.int .i64 (s 9)) ∧ X.cell? ⟨w.heap.size, 10, none⟩ = some (.int .i64 (s 10)) ∧ X.cell? ⟨w.heap.size, 11, none⟩ = some (.int .i64 (s 11)) ∧ X.cell? ⟨w.heap.size, 12, none⟩ = some (.int .i64 (s 12)) ∧ X.cell? ⟨w.heap.size + 1, 0, none⟩ = some (.int .i64 p) ∧ X.cell? ⟨w.heap.size + 1, 1, none⟩ = some (.int .i64 0) ∧ X.cell? ⟨w.heap.size + 1, 2, none⟩ = some (.int .i64 0) ∧ X.cell? ⟨w.heap.size + 1, 3, none⟩ = some (.int .i64 le) ∧ X.cell? ⟨w.heap.size + 1, 4, none⟩ = some (.bool wa) ∧ X.cell? ⟨w.heap.size + 1, 5, none⟩ = some (.slice A n c) ∧ X.cell? ⟨w.heap.size + 1 + 1, 0, none⟩ = some (.int .u64 a0) ∧ X.cell? ⟨w.heap.size + 1 + 1, 1, none⟩ = some (.int .u64 a1) ∧ X.cell? ⟨w.heap.size + 1 + 1, 2, none⟩ = some (.int .u64 b0) ∧ X.cell? ⟨w.heap.size + 1 + 1, 3, none⟩ = some (.int .u64 b1))) (by kernel_rfl) (sK _ LS0.out LC0.out LL0.out) (fun hHeld => ?_)
      clear hHeld
      refine wpAnyH_take (i := 0) (v := ?_) rfl (by kernel_rfl) (by kernel_rfl) (by kernel_rfl) (fun _ _ _ h => h) (Or.inl ⟨by rfl, ?_⟩) (sK _ LS0.out LC0.out LL0.out) ?_
      rotate_left
      · (intro wS hSw; (try dsimp only at hSw); go_simp; try with_reducible rfl)
      simp only [Act.put, List.getElem_toArray, List.getElem_cons_zero, List.getElem_cons_succ, List.setIfInBounds_toArray, List.set_cons_zero, List.set_cons_succ]
      refine wpAnyH_take (i := 1) (v := ?_) rfl (by kernel_rfl) (by kernel_rfl) (by kernel_rfl) (fun _ _ _ h => h) (Or.inl ⟨by rfl, ?_⟩) (sK _ LS0.out LC0.out LL0.out) ?_
      rotate_left
      · (intro wS hSw; (try dsimp only at hSw); go_simp; try with_reducible rfl)
      simp only [Act.put, List.getElem_toArray, List.getElem_cons_zero, List.getElem_cons_succ, List.setIfInBounds_toArray, List.set_cons_zero, List.set_cons_succ]
      refine wpAnyH_take (i := 2) (v := ?_) rfl (by kernel_rfl) (by kernel_rfl) (by kernel_rfl) (fun _ _ _ h => h) (Or.inl ⟨by rfl, ?_⟩) (sK _ LS0.out LC0.out LL0.out) ?_
      rotate_left
      · (intro wS hSw; (try dsimp only at hSw); go_simp; try with_reducible rfl)
      simp only [Act.put, List.getElem_toArray, List.getElem_cons_zero, List.getElem_cons_succ, List.setIfInBounds_toArray, List.set_cons_zero, List.set_cons_succ]
      refine wpAnyH_take (i := 3) (v := ?_) rfl (by kernel_rfl) (by kernel_rfl) (by kernel_rfl) (fun _ _ _ h => h) (Or.inl ⟨by rfl, ?_⟩) (sK _ LS0.out LC0.out LL0.out) ?_
      rotate_left
      · (intro wS hSw; (try dsimp only at hSw); go_simp; try with_reducible rfl)
      simp only [Act.put, List.getElem_toArray, List.getElem_cons_zero, List.getElem_cons_succ, List.setIfInBounds_toArray, List.set_cons_zero, List.set_cons_succ]
      refine wpAnyH_take (i := 4) (v := ?_) rfl (by kernel_rfl) (by kernel_rfl) (by kernel_rfl) (fun _ _ _ h => h) (Or.inl ⟨by rfl, ?_⟩) (sK _ LS0.out LC0.out LL0.out) ?_
      rotate_left
      · (intro wS hSw; (try dsimp only at hSw); go_simp; try with_reducible rfl)
      simp only [Act.put, List.getElem_toArray, List.getElem_cons_zero, List.getElem_cons_succ, List.setIfInBounds_toArray, List.set_cons_zero, List.set_cons_succ]
      refine wpAnyH_take (i := 5) (v := ?_) rfl (by kernel_rfl) (by kernel_rfl) (by kernel_rfl) (fun _ _ _ h => h) (Or.inl ⟨by rfl, ?_⟩) (sK _ LS0.out LC0.out LL0.out) ?_
      rotate_left
      · (intro wS hSw; (try dsimp only at hSw); go_simp; try with_reducible rfl)
      simp only [Act.put, List.getElem_toArray, List.getElem_cons_zero, List.getElem_cons_succ, List.setIfInBounds_toArray, List.set_cons_zero, List.set_cons_succ]
      refine wpAnyH_take (i := 7) (v := ?_) rfl (by kernel_rfl) (by kernel_rfl) (by kernel_rfl) (fun _ _ _ h => h) (Or.inl ⟨by rfl, ?_⟩) (sK _ LS0.out LC0.out LL0.out) ?_
      rotate_left
      · (intro wS hSw; (try dsimp only at hSw); go_simp; try with_reducible rfl)
      simp only [Act.put, List.getElem_toArray, List.getElem_cons_zero, List.getElem_cons_succ, List.setIfInBounds_toArray, List.set_cons_zero, List.set_cons_succ]
      refine wpAnyH_ready (rs := [6]) (by kernel_rfl) (by simp) ?_
      refine AllReadyH.cons rfl (fun K hK => ?_) AllReadyH.nil
      go_simp
      refine (RB.out _ (HRd.out.kept E0.out)).mono ?_
      rintro e r1 ⟨rfl, hb⟩
      have LS1 := Lib.hid (LS0.out.next hb)
      have LC1 := Lib.hid (LC0.out.next hb)
      have LL1 := Lib.hid (LL0.out.next hb)
      have E1 := Lib.hid (E0.out.trans (hb.mono E0.out.size))
      clear hb
      go_wp2_with fail
      refine hK.out _ _ (sK _ LS1.out LC1.out LL1.out) (fun hHeld => ?_)
      clear hK K hHeld
      try simp only [Act.put, List.getElem_toArray, List.getElem_cons_zero, List.getElem_cons_succ, List.setIfInBounds_toArray, List.set_cons_zero, List.set_cons_succ]
      refine wpAnyH_ready (rs := [8]) (by kernel_rfl) (by simp) ?_
      refine AllReadyH.cons rfl (fun K hK => ?_) AllReadyH.nil
      go_simp
      refine (RC.out _ (HRd.out.kept E1.out) (HRd.out.kept E1.out)).mono ?_
      rintro e r2 ⟨rfl, hb⟩
      have LS2 := Lib.hid (LS1.out.next hb)
      have LC2 := Lib.hid (LC1.out.next hb)
      have LL2 := Lib.hid (LL1.out.next hb)
      have E2 := Lib.hid (E1.out.trans (hb.mono E1.out.size))
      clear hb
      go_wp2_with fail
      refine hK.out _ _ (sK _ LS2.out LC2.out LL2.out) (fun hHeld => ?_)
      clear hK K hHeld
      try simp only [Act.put, List.getElem_toArray, List.getElem_cons_zero, List.getElem_cons_succ, List.setIfInBounds_toArray, List.set_cons_zero, List.set_cons_succ]
      refine wpAnyH_take (i := 9) (v := ?_) rfl (by kernel_rfl) (by kernel_rfl) (by kernel_rfl) (fun _ _ _ h => h) (Or.inl ⟨by rfl, ?_⟩) (sK _ LS2.out LC2.out LL2.out) ?_
      rotate_left
      · (intro wS hSw; (try dsimp only at hSw); go_simp; try with_reducible rfl)
      simp only [Act.put, List.getElem_toArray, List.getElem_cons_zero, List.getElem_cons_succ, List.setIfInBounds_toArray, List.set_cons_zero, List.set_cons_succ]
      refine wpAnyH_ready (rs := [10]) (by kernel_rfl) (by simp) ?_
      refine AllReadyH.cons rfl (fun K hK => ?_) AllReadyH.nil
      go_simp
      refine (qalive _).mono ?_
      rintro e r3 ⟨rfl, hb⟩
      have LS3 := Lib.hid (LS2.out.next hb)
      have LC3 := Lib.hid (LC2.out.next hb)
      have LL3 := Lib.hid (LL2.out.next hb)
      have E3 := Lib.hid (E2.out.trans (hb.mono E2.out.size))
      clear hb
      go_wp2_with fail
      refine hK.out _ _ (sK _ LS3.out LC3.out LL3.out) (fun hHeld => ?_)
      clear hK K hHeld
      try simp only [Act.put, List.getElem_toArray, List.getElem_cons_zero, List.getElem_cons_succ, List.setIfInBounds_toArray, List.set_cons_zero, List.set_cons_succ]
      refine wpAnyH_take (i := 11) (v := ?_) rfl (by kernel_rfl) (by kernel_rfl) (by kernel_rfl) (fun _ _ _ h => h) (Or.inl ⟨by rfl, ?_⟩) (sK _ LS3.out LC3.out LL3.out) ?_
      rotate_left
      · (intro wS hSw; (try dsimp only at hSw); go_simp; try with_reducible rfl)
      simp only [Act.put, List.getElem_toArray, List.getElem_cons_zero, List.getElem_cons_succ, List.setIfInBounds_toArray, List.set_cons_zero, List.set_cons_succ]
      refine wpAnyH_take (i := 12) (v := ?_) rfl (by kernel_rfl) (by kernel_rfl) (by kernel_rfl) (fun _ _ _ h => h) (Or.inl ⟨by rfl, ?_⟩) (sK _ LS3.out LC3.out LL3.out) ?_
      rotate_left
      · (intro wS hSw; (try dsimp only at hSw); go_simp; try with_reducible rfl)
      simp only [Act.put, List.getElem_toArray, List.getElem_cons_zero, List.getElem_cons_succ, List.setIfInBounds_toArray, List.set_cons_zero, List.set_cons_succ]
      refine wpAnyH_done (by kernel_rfl) ?_ _
      go_wp2_with fail
      go_ret
      exact ⟨by first | rfl | (simp; done), E3.out⟩
    · rw [hk] at MB
      simp only [Bool.false_eq_true, if_false, Bool.not_false] at MB
      obtain ⟨y0, hy0⟩ : ∃ v, stp 0 st o p d 0 le (s 4) 0 = v := ⟨_, rfl⟩
      obtain ⟨y1, hy1⟩ : ∃ v, stp 0 st o p d 0 le (s 4) 1 = v := ⟨_, rfl⟩
      obtain ⟨y2, hy2⟩ : ∃ v, stp 0 st o p d 0 le (s 4) 2 = v := ⟨_, rfl⟩
      obtain ⟨y3, hy3⟩ : ∃ v, stp 0 st o p d 0 le (s 4) 3 = v := ⟨_, rfl⟩
      simp only [hy0, hy1, hy2, hy3] at RB
      replace MB := Lib.hid MB; replace RB := Lib.hid RB
      clear hy0 hy1 hy2 hy3 hk
      go_wp2_with fail
      refine (MB.out _ (HRd.out.kept EE.out)).mono ?_
      rintro e v2 ⟨rfl, hb⟩
      clear kS0 kS1 kS2 kS3 kS4 kS5 kS6 kS7 kS8 kS9 kS10 kS11 kS12 kC0 kC1 kC2 kC3 kC4 kC5 kL0 kL1 kL2 kL3
      have HS := Lib.hid (Blk.next (w := v1) HS.out hb)
      have HC := Lib.hid (Blk.next (w := v1) HC.out hb)
      have HL := Lib.hid (Blk.next (w := v1) HL.out hb)
      have EE := Lib.hid (EE.out.trans (hb.mono EE.out.size))
      clear hb
      have kS0 : v2.cell? ⟨w.heap.size, 0, none⟩ = some (.int .i64 (s 0)) := HS.out.cell 0
      have kS1 : v2.cell? ⟨w.heap.size, 1, none⟩ = some (.int .i64 (s 1)) := HS.out.cell 1
      have kS2 : v2.cell? ⟨w.heap.size, 2, none⟩ = some (.int .i64 (s 2)) := HS.out.cell 2
      have kS3 : v2.cell? ⟨w.heap.size, 3, none⟩ = some (.int .i64 (s 3)) := HS.out.cell 3
      have kS4 : v2.cell? ⟨w.heap.size, 4, none⟩ = some (.int .i64 (s 4)) := HS.out.cell 4
      have kS5 : v2.cell? ⟨w.heap.size, 5, none⟩ = some (.int .i64 (s 5)) := HS.out.cell 5
      have kS6 : v2.cell? ⟨w.heap.size, 6, none⟩ = some (.int .i64 (s 6)) := HS.out.cell 6
      have kS7 : v2.cell? ⟨w.heap.size, 7, none⟩ = some (.int .i64 (s 7)) := HS.out.cell 7
      have kS8 : v2.cell? ⟨w.heap.size, 8, none⟩ = some (.slice SA sn sc) := HS.out.cell 8
      have kS9 : v2.cell? ⟨w.heap.size, 9, none⟩ = some (.int .i64 (s 9)) := HS.out.cell 9
      have kS10 : v2.cell? ⟨w.heap.size, 10, none⟩ = some (.int .i64 (s 10)) := HS.out.cell 10
      have kS11 : v2.cell? ⟨w.heap.size, 11, none⟩ = some (.int .i64 (s 11)) := HS.out.cell 11
      have kS12 : v2.cell? ⟨w.heap.size, 12, none⟩ = some (.int .i64 (s 12)) := HS.out.cell 12
      have kC0 : v2.cell? ⟨w.heap.size + 1, 0, none⟩ = some (.int .i64 p) := HC.out.cell 0
      have kC1 : v2.cell? ⟨w.heap.size + 1, 1, none⟩ = some (.int .i64 d) := HC.out.cell 1
      have kC2 : v2.cell? ⟨w.heap.size + 1, 2, none⟩ = some (.int .i64 0) := HC.out.cell 2
      have kC3 : v2.cell? ⟨w.heap.size + 1, 3, none⟩ = some (.int .i64 le) := HC.out.cell 3
      have kC4 : v2.cell? ⟨w.heap.size + 1, 4, none⟩ = some (.bool wa) := HC.out.cell 4
      have kC5 : v2.cell? ⟨w.heap.size + 1, 5, none⟩ = some (.slice A n c) := HC.out.cell 5
      have kL0 : v2.cell? ⟨w.heap.size + 1 + 1, 0, none⟩ = some (.int .u64 a0) := HL.out.cell 0
      have kL1 : v2.cell? ⟨w.heap.size + 1 + 1, 1, none⟩ = some (.int .u64 a1) := HL.out.cell 1
      have kL2 : v2.cell? ⟨w.heap.size + 1 + 1, 2, none⟩ = some (.int .u64 b0) := HL.out.cell 2
      have kL3 : v2.cell? ⟨w.heap.size + 1 + 1, 3, none⟩ = some (.int .u64 b1) := HL.out.cell 3
      have lS := HS.out.lt
      have lC := HC.out.lt
      have lL := HL.out.lt
      go_wp2_with fail
      clear kS0 kS1 kS2 kS3 kS4 kS5 kS6 kS7 kS8 kS9 kS10 kS11 kS12 kC0 kC1 kC2 kC3 kC4 kC5 kL0 kL1 kL2 kL3 lS lC lL
      have GS : Blk (v2.alloc (.cells #[.int .i64 p, .int .i64 d, .int .i64 0, .int .i64 le, .bool wa, .slice A n c] 29)) (w.heap.size) 25 #[.int .i64 (s 0), .int .i64 (s 1), .int .i64 (s 2), .int .i64 (s 3), .int .i64 (s 4), .int .i64 (s 5), .int .i64 (s 6), .int .i64 (s 7), .slice SA sn sc, .int .i64 (s 9), .int .i64 (s 10), .int .i64 (s 11), .int .i64 (s 12)] := HS.out.alloc (.cells #[.int .i64 p, .int .i64 d, .int .i64 0, .int .i64 le, .bool wa, .slice A n c] 29)
      have GC : Blk (v2.alloc (.cells #[.int .i64 p, .int .i64 d, .int .i64 0, .int .i64 le, .bool wa, .slice A n c] 29)) (w.heap.size + 1) 29 #[.int .i64 p, .int .i64 d, .int .i64 0, .int .i64 le, .bool wa, .slice A n c] := HC.out.alloc (.cells #[.int .i64 p, .int .i64 d, .int .i64 0, .int .i64 le, .bool wa, .slice A n c] 29)
      have GL : Blk (v2.alloc (.cells #[.int .i64 p, .int .i64 d, .int .i64 0, .int .i64 le, .bool wa, .slice A n c] 29)) (w.heap.size + 1 + 1) 33 #[.int .u64 a0, .int .u64 a1, .int .u64 b0, .int .u64 b1] := HL.out.alloc (.cells #[.int .i64 p, .int .i64 d, .int .i64 0, .int .i64 le, .bool wa, .slice A n c] 29)
      have GX : Blk (v2.alloc (.cells #[.int .i64 p, .int .i64 d, .int .i64 0, .int .i64 le, .bool wa, .slice A n c] 29)) (v2.heap.size) 29 #[.int .i64 p, .int .i64 d, .int .i64 0, .int .i64 le, .bool wa, .slice A n c] := Blk.new v2 _ _
      have GE : Below w.heap.size w (v2.alloc (.cells #[.int .i64 p, .int .i64 d, .int .i64 0, .int .i64 le, .bool wa, .slice A n c] 29)) := EE.out.alloc EE.out.size (.cells #[.int .i64 p, .int .i64 d, .int .i64 0, .int .i64 le, .bool wa, .slice A n c] 29)
      obtain ⟨gx, hgx⟩ : ∃ g, v2.heap.size = g := ⟨_, rfl⟩
      have ne3_0 : gx ≠ w.heap.size := by have := HS.out.lt; omega
      have ne0_3 : w.heap.size ≠ gx := by have := HS.out.lt; omega
      have ne3_1 : gx ≠ w.heap.size + 1 := by have := HC.out.lt; omega
      have ne1_3 : w.heap.size + 1 ≠ gx := by have := HC.out.lt; omega
      have ne3_2 : gx ≠ w.heap.size + 1 + 1 := by have := HL.out.lt; omega
      have ne2_3 : w.heap.size + 1 + 1 ≠ gx := by have := HL.out.lt; omega
      have gegx : w.heap.size ≤ gx := by have := EE.out.size; omega
      rw [hgx] at GX ⊢
      clear hgx
      obtain ⟨v3, hv3⟩ : ∃ V, (v2.alloc (.cells #[.int .i64 p, .int .i64 d, .int .i64 0, .int .i64 le, .bool wa, .slice A n c] 29)) = V := ⟨_, rfl⟩
      rw [hv3] at GS GC GL GX GE ⊢
      have HS := Lib.hid GS
      have HC := Lib.hid GC
      have HL := Lib.hid GL
      have HX := Lib.hid GX
      have EE := Lib.hid GE
      clear hv3 GS GC GL GX GE
      have kS0 : v3.cell? ⟨w.heap.size, 0, none⟩ = some (.int .i64 (s 0)) := HS.out.cell 0
      have kS1 : v3.cell? ⟨w.heap.size, 1, none⟩ = some (.int .i64 (s 1)) := HS.out.cell 1
      have kS2 : v3.cell? ⟨w.heap.size, 2, none⟩ = some (.int .i64 (s 2)) := HS.out.cell 2
      have kS3 : v3.cell? ⟨w.heap.size, 3, none⟩ = some (.int .i64 (s 3)) := HS.out.cell 3
      have kS4 : v3.cell? ⟨w.heap.size, 4, none⟩ = some (.int .i64 (s 4)) := HS.out.cell 4
      have kS5 : v3.cell? ⟨w.heap.size, 5, none⟩ = some (.int .i64 (s 5)) := HS.out.cell 5
      have kS6 : v3.cell? ⟨w.heap.size, 6, none⟩ = some (.int .i64 (s 6)) := HS.out.cell 6
      have kS7 : v3.cell? ⟨w.heap.size, 7, none⟩ = some (.int .i64 (s 7)) := HS.out.cell 7
      have kS8 : v3.cell? ⟨w.heap.size, 8, none⟩ = some (.slice SA sn sc) := HS.out.cell 8
      have kS9 : v3.cell? ⟨w.heap.size, 9, none⟩ = some (.int .i64 (s 9)) := HS.out.cell 9
      have kS10 : v3.cell? ⟨w.heap.size, 10, none⟩ = some (.int .i64 (s 10)) := HS.out.cell 10
      have kS11 : v3.cell? ⟨w.heap.size, 11, none⟩ = some (.int .i64 (s 11)) := HS.out.cell 11
      have kS12 : v3.cell? ⟨w.heap.size, 12, none⟩ = some (.int .i64 (s 12)) := HS.out.cell 12
      have kC0 : v3.cell? ⟨w.heap.size + 1, 0, none⟩ = some (.int .i64 p) := HC.out.cell 0
      have kC1 : v3.cell? ⟨w.heap.size + 1, 1, none⟩ = some (.int .i64 d) := HC.out.cell 1
      have kC2 : v3.cell? ⟨w.heap.size + 1, 2, none⟩ = some (.int .i64 0) := HC.out.cell 2
      have kC3 : v3.cell? ⟨w.heap.size + 1, 3, none⟩ = some (.int .i64 le) := HC.out.cell 3
      have kC4 : v3.cell? ⟨w.heap.size + 1, 4, none⟩ = some (.bool wa) := HC.out.cell 4
      have kC5 : v3.cell? ⟨w.heap.size + 1, 5, none⟩ = some (.slice A n c) := HC.out.cell 5
      have kL0 : v3.cell? ⟨w.heap.size + 1 + 1, 0, none⟩ = some (.int .u64 a0) := HL.out.cell 0
      have kL1 : v3.cell? ⟨w.heap.size + 1 + 1, 1, none⟩ = some (.int .u64 a1) := HL.out.cell 1
      have kL2 : v3.cell? ⟨w.heap.size + 1 + 1, 2, none⟩ = some (.int .u64 b0) := HL.out.cell 2
      have kL3 : v3.cell? ⟨w.heap.size + 1 + 1, 3, none⟩ = some (.int .u64 b1) := HL.out.cell 3
      have kX0 : v3.cell? ⟨gx, 0, none⟩ = some (.int .i64 p) := HX.out.cell 0
      have kX1 : v3.cell? ⟨gx, 1, none⟩ = some (.int .i64 d) := HX.out.cell 1
      have kX2 : v3.cell? ⟨gx, 2, none⟩ = some (.int .i64 0) := HX.out.cell 2
      have kX3 : v3.cell? ⟨gx, 3, none⟩ = some (.int .i64 le) := HX.out.cell 3
      have kX4 : v3.cell? ⟨gx, 4, none⟩ = some (.bool wa) := HX.out.cell 4
      have kX5 : v3.cell? ⟨gx, 5, none⟩ = some (.slice A n c) := HX.out.cell 5
      go_loopw [10, 11, 12, 13] (fun b _ _ _ wr => b = .int .i64 1 ∧ wr = v3) (fun _ _ _ _ _ => 0)
      case atStart => exact ⟨rfl, rfl⟩
      case round =>
        obtain ⟨rfl, rfl⟩ := hrel
        go_wp2_with fail
        refine (RB.out _ (HRd.out.kept EE.out)).mono ?_
        rintro e v4 ⟨rfl, hb⟩
        clear kS0 kS1 kS2 kS3 kS4 kS5 kS6 kS7 kS8 kS9 kS10 kS11 kS12 kC0 kC1 kC2 kC3 kC4 kC5 kL0 kL1 kL2 kL3 kX0 kX1 kX2 kX3 kX4 kX5
        have HS := Lib.hid (Blk.next (w := wr) HS.out hb)
        have HC := Lib.hid (Blk.next (w := wr) HC.out hb)
        have HL := Lib.hid (Blk.next (w := wr) HL.out hb)
        have HX := Lib.hid (Blk.next (w := wr) HX.out hb)
        have EE := Lib.hid (EE.out.trans (hb.mono EE.out.size))
        clear hb
        have kS0 : v4.cell? ⟨w.heap.size, 0, none⟩ = some (.int .i64 (s 0)) := HS.out.cell 0
        have kS1 : v4.cell? ⟨w.heap.size, 1, none⟩ = some (.int .i64 (s 1)) := HS.out.cell 1
        have kS2 : v4.cell? ⟨w.heap.size, 2, none⟩ = some (.int .i64 (s 2)) := HS.out.cell 2
        have kS3 : v4.cell? ⟨w.heap.size, 3, none⟩ = some (.int .i64 (s 3)) := HS.out.cell 3
        have kS4 : v4.cell? ⟨w.heap.size, 4, none⟩ = some (.int .i64 (s 4)) := HS.out.cell 4
        have kS5 : v4.cell? ⟨w.heap.size, 5, none⟩ = some (.int .i64 (s 5)) := HS.out.cell 5
        have kS6 : v4.cell? ⟨w.heap.size, 6, none⟩ = some (.int .i64 (s 6)) := HS.out.cell 6
        have kS7 : v4.cell? ⟨w.heap.size, 7, none⟩ = some (.int .i64 (s 7)) := HS.out.cell 7
        have kS8 : v4.cell? ⟨w.heap.size, 8, none⟩ = some (.slice SA sn sc) := HS.out.cell 8
        have kS9 : v4.cell? ⟨w.heap.size, 9, none⟩ = some (.int .i64 (s 9)) := HS.out.cell 9
        have kS10 : v4.cell? ⟨w.heap.size, 10, none⟩ = some (.int .i64 (s 10)) := HS.out.cell 10
        have kS11 : v4.cell? ⟨w.heap.size, 11, none⟩ = some (.int .i64 (s 11)) := HS.out.cell 11
        have kS12 : v4.cell? ⟨w.heap.size, 12, none⟩ = some (.int .i64 (s 12)) := HS.out.cell 12
        have kC0 : v4.cell? ⟨w.heap.size + 1, 0, none⟩ = some (.int .i64 p) := HC.out.cell 0
        have kC1 : v4.cell? ⟨w.heap.size + 1, 1, none⟩ = some (.int .i64 d) := HC.out.cell 1
        have kC2 : v4.cell? ⟨w.heap.size + 1, 2, none⟩ = some (.int .i64 0) := HC.out.cell 2
        have kC3 : v4.cell? ⟨w.heap.size + 1, 3, none⟩ = some (.int .i64 le) := HC.out.cell 3
        have kC4 : v4.cell? ⟨w.heap.size + 1, 4, none⟩ = some (.bool wa) := HC.out.cell 4
        have kC5 : v4.cell? ⟨w.heap.size + 1, 5, none⟩ = some (.slice A n c) := HC.out.cell 5
        have kL0 : v4.cell? ⟨w.heap.size + 1 + 1, 0, none⟩ = some (.int .u64 a0) := HL.out.cell 0
        have kL1 : v4.cell? ⟨w.heap.size + 1 + 1, 1, none⟩ = some (.int .u64 a1) := HL.out.cell 1
        have kL2 : v4.cell? ⟨w.heap.size + 1 + 1, 2, none⟩ = some (.int .u64 b0) := HL.out.cell 2
        have kL3 : v4.cell? ⟨w.heap.size + 1 + 1, 3, none⟩ = some (.int .u64 b1) := HL.out.cell 3
        have kX0 : v4.cell? ⟨gx, 0, none⟩ = some (.int .i64 p) := HX.out.cell 0
        have kX1 : v4.cell? ⟨gx, 1, none⟩ = some (.int .i64 d) := HX.out.cell 1
        have kX2 : v4.cell? ⟨gx, 2, none⟩ = some (.int .i64 0) := HX.out.cell 2
        have kX3 : v4.cell? ⟨gx, 3, none⟩ = some (.int .i64 le) := HX.out.cell 3
        have kX4 : v4.cell? ⟨gx, 4, none⟩ = some (.bool wa) := HX.out.cell 4
        have kX5 : v4.cell? ⟨gx, 5, none⟩ = some (.slice A n c) := HX.out.cell 5
        have lS := HS.out.lt
        have lC := HC.out.lt
        have lL := HL.out.lt
        have lX := HX.out.lt
        by_cases h6 : y2 = 1
        · subst h6
          by_cases h7 : y1 ≠ d
          · have hdd : (y1 != d) = true := by rw [bne_iff_ne]; exact h7
            go_wp2_with fail
            clear kS0 kS1 kS2 kS3 kS4 kS5 kS6 kS7 kS8 kS9 kS10 kS11 kS12 kC0 kC1 kC2 kC3 kC4 kC5 kL0 kL1 kL2 kL3 kX0 kX1 kX2 kX3 kX4 kX5 lS lC lL lX
            have GS : Blk (v4.alloc (.cells #[.int .i64 y0, .int .i64 y1, .int .i64 1, .int .i64 y3, .bool wa, .slice A n c] 29)) (w.heap.size) 25 #[.int .i64 (s 0), .int .i64 (s 1), .int .i64 (s 2), .int .i64 (s 3), .int .i64 (s 4), .int .i64 (s 5), .int .i64 (s 6), .int .i64 (s 7), .slice SA sn sc, .int .i64 (s 9), .int .i64 (s 10), .int .i64 (s 11), .int .i64 (s 12)] := HS.out.alloc (.cells #[.int .i64 y0, .int .i64 y1, .int .i64 1, .int .i64 y3, .bool wa, .slice A n c] 29)
            have GC : Blk (v4.alloc (.cells #[.int .i64 y0, .int .i64 y1, .int .i64 1, .int .i64 y3, .bool wa, .slice A n c] 29)) (w.heap.size + 1) 29 #[.int .i64 p, .int .i64 d, .int .i64 0, .int .i64 le, .bool wa, .slice A n c] := HC.out.alloc (.cells #[.int .i64 y0, .int .i64 y1, .int .i64 1, .int .i64 y3, .bool wa, .slice A n c] 29)
            have GL : Blk (v4.alloc (.cells #[.int .i64 y0, .int .i64 y1, .int .i64 1, .int .i64 y3, .bool wa, .slice A n c] 29)) (w.heap.size + 1 + 1) 33 #[.int .u64 a0, .int .u64 a1, .int .u64 b0, .int .u64 b1] := HL.out.alloc (.cells #[.int .i64 y0, .int .i64 y1, .int .i64 1, .int .i64 y3, .bool wa, .slice A n c] 29)
            have GX : Blk (v4.alloc (.cells #[.int .i64 y0, .int .i64 y1, .int .i64 1, .int .i64 y3, .bool wa, .slice A n c] 29)) (gx) 29 #[.int .i64 p, .int .i64 d, .int .i64 0, .int .i64 le, .bool wa, .slice A n c] := HX.out.alloc (.cells #[.int .i64 y0, .int .i64 y1, .int .i64 1, .int .i64 y3, .bool wa, .slice A n c] 29)
            have GY : Blk (v4.alloc (.cells #[.int .i64 y0, .int .i64 y1, .int .i64 1, .int .i64 y3, .bool wa, .slice A n c] 29)) (v4.heap.size) 29 #[.int .i64 y0, .int .i64 y1, .int .i64 1, .int .i64 y3, .bool wa, .slice A n c] := Blk.new v4 _ _
            have GE : Below w.heap.size w (v4.alloc (.cells #[.int .i64 y0, .int .i64 y1, .int .i64 1, .int .i64 y3, .bool wa, .slice A n c] 29)) := EE.out.alloc EE.out.size (.cells #[.int .i64 y0, .int .i64 y1, .int .i64 1, .int .i64 y3, .bool wa, .slice A n c] 29)
            obtain ⟨gy, hgy⟩ : ∃ g, v4.heap.size = g := ⟨_, rfl⟩
            have ne4_0 : gy ≠ w.heap.size := by have := HS.out.lt; omega
            have ne0_4 : w.heap.size ≠ gy := by have := HS.out.lt; omega
            have ne4_1 : gy ≠ w.heap.size + 1 := by have := HC.out.lt; omega
            have ne1_4 : w.heap.size + 1 ≠ gy := by have := HC.out.lt; omega
            have ne4_2 : gy ≠ w.heap.size + 1 + 1 := by have := HL.out.lt; omega
            have ne2_4 : w.heap.size + 1 + 1 ≠ gy := by have := HL.out.lt; omega
            have ne4_3 : gy ≠ gx := by have := HX.out.lt; omega
            have ne3_4 : gx ≠ gy := by have := HX.out.lt; omega
            have gegy : w.heap.size ≤ gy := by have := EE.out.size; omega
            rw [hgy] at GY ⊢
            clear hgy
            obtain ⟨v5, hv5⟩ : ∃ V, (v4.alloc (.cells #[.int .i64 y0, .int .i64 y1, .int .i64 1, .int .i64 y3, .bool wa, .slice A n c] 29)) = V := ⟨_, rfl⟩
            rw [hv5] at GS GC GL GX GY GE ⊢
            have HS := Lib.hid GS
            have HC := Lib.hid GC
            have HL := Lib.hid GL
            have HX := Lib.hid GX
            have HY := Lib.hid GY
            have EE := Lib.hid GE
            clear hv5 GS GC GL GX GY GE
            have kS0 : v5.cell? ⟨w.heap.size, 0, none⟩ = some (.int .i64 (s 0)) := HS.out.cell 0
            have kS1 : v5.cell? ⟨w.heap.size, 1, none⟩ = some (.int .i64 (s 1)) := HS.out.cell 1
            have kS2 : v5.cell? ⟨w.heap.size, 2, none⟩ = some (.int .i64 (s 2)) := HS.out.cell 2
            have kS3 : v5.cell? ⟨w.heap.size, 3, none⟩ = some (.int .i64 (s 3)) := HS.out.cell 3
            have kS4 : v5.cell? ⟨w.heap.size, 4, none⟩ = some (.int .i64 (s 4)) := HS.out.cell 4
            have kS5 : v5.cell? ⟨w.heap.size, 5, none⟩ = some (.int .i64 (s 5)) := HS.out.cell 5
            have kS6 : v5.cell? ⟨w.heap.size, 6, none⟩ = some (.int .i64 (s 6)) := HS.out.cell 6
            have kS7 : v5.cell? ⟨w.heap.size, 7, none⟩ = some (.int .i64 (s 7)) := HS.out.cell 7
            have kS8 : v5.cell? ⟨w.heap.size, 8, none⟩ = some (.slice SA sn sc) := HS.out.cell 8
            have kS9 : v5.cell? ⟨w.heap.size, 9, none⟩ = some (.int .i64 (s 9)) := HS.out.cell 9
            have kS10 : v5.cell? ⟨w.heap.size, 10, none⟩ = some (.int .i64 (s 10)) := HS.out.cell 10
            have kS11 : v5.cell? ⟨w.heap.size, 11, none⟩ = some (.int .i64 (s 11)) := HS.out.cell 11
            have kS12 : v5.cell? ⟨w.heap.size, 12, none⟩ = some (.int .i64 (s 12)) := HS.out.cell 12
            have kC0 : v5.cell? ⟨w.heap.size + 1, 0, none⟩ = some (.int .i64 p) := HC.out.cell 0
            have kC1 : v5.cell? ⟨w.heap.size + 1, 1, none⟩ = some (.int .i64 d) := HC.out.cell 1
            have kC2 : v5.cell? ⟨w.heap.size + 1, 2, none⟩ = some (.int .i64 0) := HC.out.cell 2
            have kC3 : v5.cell? ⟨w.heap.size + 1, 3, none⟩ = some (.int .i64 le) := HC.out.cell 3
            have kC4 : v5.cell? ⟨w.heap.size + 1, 4, none⟩ = some (.bool wa) := HC.out.cell 4
            have kC5 : v5.cell? ⟨w.heap.size + 1, 5, none⟩ = some (.slice A n c) := HC.out.cell 5
            have kL0 : v5.cell? ⟨w.heap.size + 1 + 1, 0, none⟩ = some (.int .u64 a0) := HL.out.cell 0
            have kL1 : v5.cell? ⟨w.heap.size + 1 + 1, 1, none⟩ = some (.int .u64 a1) := HL.out.cell 1
            have kL2 : v5.cell? ⟨w.heap.size + 1 + 1, 2, none⟩ = some (.int .u64 b0) := HL.out.cell 2
            have kL3 : v5.cell? ⟨w.heap.size + 1 + 1, 3, none⟩ = some (.int .u64 b1) := HL.out.cell 3
            have kX0 : v5.cell? ⟨gx, 0, none⟩ = some (.int .i64 p) := HX.out.cell 0
            have kX1 : v5.cell? ⟨gx, 1, none⟩ = some (.int .i64 d) := HX.out.cell 1
            have kX2 : v5.cell? ⟨gx, 2, none⟩ = some (.int .i64 0) := HX.out.cell 2
            have kX3 : v5.cell? ⟨gx, 3, none⟩ = some (.int .i64 le) := HX.out.cell 3
            have kX4 : v5.cell? ⟨gx, 4, none⟩ = some (.bool wa) := HX.out.cell 4
            have kX5 : v5.cell? ⟨gx, 5, none⟩ = some (.slice A n c) := HX.out.cell 5
            have kY0 : v5.cell? ⟨gy, 0, none⟩ = some (.int .i64 y0) := HY.out.cell 0
            have kY1 : v5.cell? ⟨gy, 1, none⟩ = some (.int .i64 y1) := HY.out.cell 1
            have kY2 : v5.cell? ⟨gy, 2, none⟩ = some (.int .i64 1) := HY.out.cell 2
            have kY3 : v5.cell? ⟨gy, 3, none⟩ = some (.int .i64 y3) := HY.out.cell 3
            have kY4 : v5.cell? ⟨gy, 4, none⟩ = some (.bool wa) := HY.out.cell 4
            have kY5 : v5.cell? ⟨gy, 5, none⟩ = some (.slice A n c) := HY.out.cell 5
            refine (qalive _).mono ?_
            rintro e v6 ⟨rfl, hb⟩
            clear kS0 kS1 kS2 kS3 kS4 kS5 kS6 kS7 kS8 kS9 kS10 kS11 kS12 kC0 kC1 kC2 kC3 kC4 kC5 kL0 kL1 kL2 kL3 kX0 kX1 kX2 kX3 kX4 kX5 kY0 kY1 kY2 kY3 kY4 kY5
            have HS := Lib.hid (Blk.next (w := v5) HS.out hb)
            have HC := Lib.hid (Blk.next (w := v5) HC.out hb)
            have HL := Lib.hid (Blk.next (w := v5) HL.out hb)
            have HX := Lib.hid (Blk.next (w := v5) HX.out hb)
            have HY := Lib.hid (Blk.next (w := v5) HY.out hb)
            have EE := Lib.hid (EE.out.trans (hb.mono EE.out.size))
            clear hb
            have kS0 : v6.cell? ⟨w.heap.size, 0, none⟩ = some (.int .i64 (s 0)) := HS.out.cell 0
            have kS1 : v6.cell? ⟨w.heap.size, 1, none⟩ = some (.int .i64 (s 1)) := HS.out.cell 1
            have kS2 : v6.cell? ⟨w.heap.size, 2, none⟩ = some (.int .i64 (s 2)) := HS.out.cell 2
            have kS3 : v6.cell? ⟨w.heap.size, 3, none⟩ = some (.int .i64 (s 3)) := HS.out.cell 3
            have kS4 : v6.cell? ⟨w.heap.size, 4, none⟩ = some (.int .i64 (s 4)) := HS.out.cell 4
            have kS5 : v6.cell? ⟨w.heap.size, 5, none⟩ = some (.int .i64 (s 5)) := HS.out.cell 5
            have kS6 : v6.cell? ⟨w.heap.size, 6, none⟩ = some (.int .i64 (s 6)) := HS.out.cell 6
            have kS7 : v6.cell? ⟨w.heap.size, 7, none⟩ = some (.int .i64 (s 7)) := HS.out.cell 7
            have kS8 : v6.cell? ⟨w.heap.size, 8, none⟩ = some (.slice SA sn sc) := HS.out.cell 8
            have kS9 : v6.cell? ⟨w.heap.size, 9, none⟩ = some (.int .i64 (s 9)) := HS.out.cell 9
            have kS10 : v6.cell? ⟨w.heap.size, 10, none⟩ = some (.int .i64 (s 10)) := HS.out.cell 10
            have kS11 : v6.cell? ⟨w.heap.size, 11, none⟩ = some (.int .i64 (s 11)) := HS.out.cell 11
            have kS12 : v6.cell? ⟨w.heap.size, 12, none⟩ = some (.int .i64 (s 12)) := HS.out.cell 12
            have kC0 : v6.cell? ⟨w.heap.size + 1, 0, none⟩ = some (.int .i64 p) := HC.out.cell 0
            have kC1 : v6.cell? ⟨w.heap.size + 1, 1, none⟩ = some (.int .i64 d) := HC.out.cell 1
            have kC2 : v6.cell? ⟨w.heap.size + 1, 2, none⟩ = some (.int .i64 0) := HC.out.cell 2
            have kC3 : v6.cell? ⟨w.heap.size + 1, 3, none⟩ = some (.int .i64 le) := HC.out.cell 3
            have kC4 : v6.cell? ⟨w.heap.size + 1, 4, none⟩ = some (.bool wa) := HC.out.cell 4
            have kC5 : v6.cell? ⟨w.heap.size + 1, 5, none⟩ = some (.slice A n c) := HC.out.cell 5
            have kL0 : v6.cell? ⟨w.heap.size + 1 + 1, 0, none⟩ = some (.int .u64 a0) := HL.out.cell 0
            have kL1 : v6.cell? ⟨w.heap.size + 1 + 1, 1, none⟩ = some (.int .u64 a1) := HL.out.cell 1
            have kL2 : v6.cell? ⟨w.heap.size + 1 + 1, 2, none⟩ = some (.int .u64 b0) := HL.out.cell 2
            have kL3 : v6.cell? ⟨w.heap.size + 1 + 1, 3, none⟩ = some (.int .u64 b1) := HL.out.cell 3
            have kX0 : v6.cell? ⟨gx, 0, none⟩ = some (.int .i64 p) := HX.out.cell 0
            have kX1 : v6.cell? ⟨gx, 1, none⟩ = some (.int .i64 d) := HX.out.cell 1
            have kX2 : v6.cell? ⟨gx, 2, none⟩ = some (.int .i64 0) := HX.out.cell 2
            have kX3 : v6.cell? ⟨gx, 3, none⟩ = some (.int .i64 le) := HX.out.cell 3
            have kX4 : v6.cell? ⟨gx, 4, none⟩ = some (.bool wa) := HX.out.cell 4
            have kX5 : v6.cell? ⟨gx, 5, none⟩ = some (.slice A n c) := HX.out.cell 5
            have kY0 : v6.cell? ⟨gy, 0, none⟩ = some (.int .i64 y0) := HY.out.cell 0
            have kY1 : v6.cell? ⟨gy, 1, none⟩ = some (.int .i64 y1) := HY.out.cell 1
            have kY2 : v6.cell? ⟨gy, 2, none⟩ = some (.int .i64 1) := HY.out.cell 2
            have kY3 : v6.cell? ⟨gy, 3, none⟩ = some (.int .i64 y3) := HY.out.cell 3
            have kY4 : v6.cell? ⟨gy, 4, none⟩ = some (.bool wa) := HY.out.cell 4
            have kY5 : v6.cell? ⟨gy, 5, none⟩ = some (.slice A n c) := HY.out.cell 5
            go_wp2_with fail
            go_ret
            exact ⟨by first | rfl | (simp; done), EE.out⟩
          · have h8 : y1 = d := Classical.byContradiction h7
            have hdd : (y1 != d) = false := by rw [h8]; simp
            clear h7
            go_wp2_with fail
            clear kS0 kS1 kS2 kS3 kS4 kS5 kS6 kS7 kS8 kS9 kS10 kS11 kS12 kC0 kC1 kC2 kC3 kC4 kC5 kL0 kL1 kL2 kL3 kX0 kX1 kX2 kX3 kX4 kX5 lS lC lL lX
            have GS : Blk (v4.alloc (.cells #[.int .i64 y0, .int .i64 d, .int .i64 1, .int .i64 y3, .bool wa, .slice A n c] 29)) (w.heap.size) 25 #[.int .i64 (s 0), .int .i64 (s 1), .int .i64 (s 2), .int .i64 (s 3), .int .i64 (s 4), .int .i64 (s 5), .int .i64 (s 6), .int .i64 (s 7), .slice SA sn sc, .int .i64 (s 9), .int .i64 (s 10), .int .i64 (s 11), .int .i64 (s 12)] := HS.out.alloc (.cells #[.int .i64 y0, .int .i64 d, .int .i64 1, .int .i64 y3, .bool wa, .slice A n c] 29)
            have GC : Blk (v4.alloc (.cells #[.int .i64 y0, .int .i64 d, .int .i64 1, .int .i64 y3, .bool wa, .slice A n c] 29)) (w.heap.size + 1) 29 #[.int .i64 p, .int .i64 d, .int .i64 0, .int .i64 le, .bool wa, .slice A n c] := HC.out.alloc (.cells #[.int .i64 y0, .int .i64 d, .int .i64 1, .int .i64 y3, .bool wa, .slice A n c] 29)
            have GL : Blk (v4.alloc (.cells #[.int .i64 y0, .int .i64 d, .int .i64 1, .int .i64 y3, .bool wa, .slice A n c] 29)) (w.heap.size + 1 + 1) 33 #[.int .u64 a0, .int .u64 a1, .int .u64 b0, .int .u64 b1] := HL.out.alloc (.cells #[.int .i64 y0, .int .i64 d, .int .i64 1, .int .i64 y3, .bool wa, .slice A n c] 29)
            have GX : Blk (v4.alloc (.cells #[.int .i64 y0, .int .i64 d, .int .i64 1, .int .i64 y3, .bool wa, .slice A n c] 29)) (gx) 29 #[.int .i64 p, .int .i64 d, .int .i64 0, .int .i64 le, .bool wa, .slice A n c] := HX.out.alloc (.cells #[.int .i64 y0, .int .i64 d, .int .i64 1, .int .i64 y3, .bool wa, .slice A n c] 29)
            have GY : Blk (v4.alloc (.cells #[.int .i64 y0, .int .i64 d, .int .i64 1, .int .i64 y3, .bool wa, .slice A n c] 29)) (v4.heap.size) 29 #[.int .i64 y0, .int .i64 d, .int .i64 1, .int .i64 y3, .bool wa, .slice A n c] := Blk.new v4 _ _
            have GE : Below w.heap.size w (v4.alloc (.cells #[.int .i64 y0, .int .i64 d, .int .i64 1, .int .i64 y3, .bool wa, .slice A n c] 29)) := EE.out.alloc EE.out.size (.cells #[.int .i64 y0, .int .i64 d, .int .i64 1, .int .i64 y3, .bool wa, .slice A n c] 29)
            obtain ⟨gy, hgy⟩ : ∃ g, v4.heap.size = g := ⟨_, rfl⟩
            have ne4_0 : gy ≠ w.heap.size := by have := HS.out.lt; omega
            have ne0_4 : w.heap.size ≠ gy := by have := HS.out.lt; omega
            have ne4_1 : gy ≠ w.heap.size + 1 := by have := HC.out.lt; omega
            have ne1_4 : w.heap.size + 1 ≠ gy := by have := HC.out.lt; omega
            have ne4_2 : gy ≠ w.heap.size + 1 + 1 := by have := HL.out.lt; omega
            have ne2_4 : w.heap.size + 1 + 1 ≠ gy := by have := HL.out.lt; omega
            have ne4_3 : gy ≠ gx := by have := HX.out.lt; omega
            have ne3_4 : gx ≠ gy := by have := HX.out.lt; omega
            have gegy : w.heap.size ≤ gy := by have := EE.out.size; omega
            rw [hgy] at GY ⊢
            clear hgy
            obtain ⟨v5, hv5⟩ : ∃ V, (v4.alloc (.cells #[.int .i64 y0, .int .i64 d, .int .i64 1, .int .i64 y3, .bool wa, .slice A n c] 29)) = V := ⟨_, rfl⟩
            rw [hv5] at GS GC GL GX GY GE ⊢
            have HS := Lib.hid GS
            have HC := Lib.hid GC
            have HL := Lib.hid GL
            have HX := Lib.hid GX
            have HY := Lib.hid GY
            have EE := Lib.hid GE
            clear hv5 GS GC GL GX GY GE
            have kS0 : v5.cell? ⟨w.heap.size, 0, none⟩ = some (.int .i64 (s 0)) := HS.out.cell 0
            have kS1 : v5.cell? ⟨w.heap.size, 1, none⟩ = some (.int .i64 (s 1)) := HS.out.cell 1
            have kS2 : v5.cell? ⟨w.heap.size, 2, none⟩ = some (.int .i64 (s 2)) := HS.out.cell 2
            have kS3 : v5.cell? ⟨w.heap.size, 3, none⟩ = some (.int .i64 (s 3)) := HS.out.cell 3
            have kS4 : v5.cell? ⟨w.heap.size, 4, none⟩ = some (.int .i64 (s 4)) := HS.out.cell 4
            have kS5 : v5.cell? ⟨w.heap.size, 5, none⟩ = some (.int .i64 (s 5)) := HS.out.cell 5
            have kS6 : v5.cell? ⟨w.heap.size, 6, none⟩ = some (.int .i64 (s 6)) := HS.out.cell 6
            have kS7 : v5.cell? ⟨w.heap.size, 7, none⟩ = some (.int .i64 (s 7)) := HS.out.cell 7
            have kS8 : v5.cell? ⟨w.heap.size, 8, none⟩ = some (.slice SA sn sc) := HS.out.cell 8
            have kS9 : v5.cell? ⟨w.heap.size, 9, none⟩ = some (.int .i64 (s 9)) := HS.out.cell 9
            have kS10 : v5.cell? ⟨w.heap.size, 10, none⟩ = some (.int .i64 (s 10)) := HS.out.cell 10
            have kS11 : v5.cell? ⟨w.heap.size, 11, none⟩ = some (.int .i64 (s 11)) := HS.out.cell 11
            have kS12 : v5.cell? ⟨w.heap.size, 12, none⟩ = some (.int .i64 (s 12)) := HS.out.cell 12
            have kC0 : v5.cell? ⟨w.heap.size + 1, 0, none⟩ = some (.int .i64 p) := HC.out.cell 0
            have kC1 : v5.cell? ⟨w.heap.size + 1, 1, none⟩ = some (.int .i64 d) := HC.out.cell 1
            have kC2 : v5.cell? ⟨w.heap.size + 1, 2, none⟩ = some (.int .i64 0) := HC.out.cell 2
            have kC3 : v5.cell? ⟨w.heap.size + 1, 3, none⟩ = some (.int .i64 le) := HC.out.cell 3
            have kC4 : v5.cell? ⟨w.heap.size + 1, 4, none⟩ = some (.bool wa) := HC.out.cell 4
            have kC5 : v5.cell? ⟨w.heap.size + 1, 5, none⟩ = some (.slice A n c) := HC.out.cell 5
            have kL0 : v5.cell? ⟨w.heap.size + 1 + 1, 0, none⟩ = some (.int .u64 a0) := HL.out.cell 0
            have kL1 : v5.cell? ⟨w.heap.size + 1 + 1, 1, none⟩ = some (.int .u64 a1) := HL.out.cell 1
            have kL2 : v5.cell? ⟨w.heap.size + 1 + 1, 2, none⟩ = some (.int .u64 b0) := HL.out.cell 2
            have kL3 : v5.cell? ⟨w.heap.size + 1 + 1, 3, none⟩ = some (.int .u64 b1) := HL.out.cell 3
            have kX0 : v5.cell? ⟨gx, 0, none⟩ = some (.int .i64 p) := HX.out.cell 0
            have kX1 : v5.cell? ⟨gx, 1, none⟩ = some (.int .i64 d) := HX.out.cell 1
            have kX2 : v5.cell? ⟨gx, 2, none⟩ = some (.int .i64 0) := HX.out.cell 2
            have kX3 : v5.cell? ⟨gx, 3, none⟩ = some (.int .i64 le) := HX.out.cell 3
            have kX4 : v5.cell? ⟨gx, 4, none⟩ = some (.bool wa) := HX.out.cell 4
            have kX5 : v5.cell? ⟨gx, 5, none⟩ = some (.slice A n c) := HX.out.cell 5
            have kY0 : v5.cell? ⟨gy, 0, none⟩ = some (.int .i64 y0) := HY.out.cell 0
            have kY1 : v5.cell? ⟨gy, 1, none⟩ = some (.int .i64 d) := HY.out.cell 1
            have kY2 : v5.cell? ⟨gy, 2, none⟩ = some (.int .i64 1) := HY.out.cell 2
            have kY3 : v5.cell? ⟨gy, 3, none⟩ = some (.int .i64 y3) := HY.out.cell 3
            have kY4 : v5.cell? ⟨gy, 4, none⟩ = some (.bool wa) := HY.out.cell 4
            have kY5 : v5.cell? ⟨gy, 5, none⟩ = some (.slice A n c) := HY.out.cell 5
            refine (qalive _).mono ?_
            rintro e v6 ⟨rfl, hb⟩
            clear kS0 kS1 kS2 kS3 kS4 kS5 kS6 kS7 kS8 kS9 kS10 kS11 kS12 kC0 kC1 kC2 kC3 kC4 kC5 kL0 kL1 kL2 kL3 kX0 kX1 kX2 kX3 kX4 kX5 kY0 kY1 kY2 kY3 kY4 kY5
            have HS := Lib.hid (Blk.next (w := v5) HS.out hb)
            have HC := Lib.hid (Blk.next (w := v5) HC.out hb)
            have HL := Lib.hid (Blk.next (w := v5) HL.out hb)
            have HX := Lib.hid (Blk.next (w := v5) HX.out hb)
            have HY := Lib.hid (Blk.next (w := v5) HY.out hb)
            have EE := Lib.hid (EE.out.trans (hb.mono EE.out.size))
            clear hb
            have kS0 : v6.cell? ⟨w.heap.size, 0, none⟩ = some (.int .i64 (s 0)) := HS.out.cell 0
            have kS1 : v6.cell? ⟨w.heap.size, 1, none⟩ = some (.int .i64 (s 1)) := HS.out.cell 1
            have kS2 : v6.cell? ⟨w.heap.size, 2, none⟩ = some (.int .i64 (s 2)) := HS.out.cell 2
            have kS3 : v6.cell? ⟨w.heap.size, 3, none⟩ = some (.int .i64 (s 3)) := HS.out.cell 3
            have kS4 : v6.cell? ⟨w.heap.size, 4, none⟩ = some (.int .i64 (s 4)) := HS.out.cell 4
            have kS5 : v6.cell? ⟨w.heap.size, 5, none⟩ = some (.int .i64 (s 5)) := HS.out.cell 5
            have kS6 : v6.cell? ⟨w.heap.size, 6, none⟩ = some (.int .i64 (s 6)) := HS.out.cell 6
            have kS7 : v6.cell? ⟨w.heap.size, 7, none⟩ = some (.int .i64 (s 7)) := HS.out.cell 7
            have kS8 : v6.cell? ⟨w.heap.size, 8, none⟩ = some (.slice SA sn sc) := HS.out.cell 8
            have kS9 : v6.cell? ⟨w.heap.size, 9, none⟩ = some (.int .i64 (s 9)) := HS.out.cell 9
            have kS10 : v6.cell? ⟨w.heap.size, 10, none⟩ = some (.int .i64 (s 10)) := HS.out.cell 10
            have kS11 : v6.cell? ⟨w.heap.size, 11, none⟩ = some (.int .i64 (s 11)) := HS.out.cell 11
            have kS12 : v6.cell? ⟨w.heap.size, 12, none⟩ = some (.int .i64 (s 12)) := HS.out.cell 12
            have kC0 : v6.cell? ⟨w.heap.size + 1, 0, none⟩ = some (.int .i64 p) := HC.out.cell 0
            have kC1 : v6.cell? ⟨w.heap.size + 1, 1, none⟩ = some (.int .i64 d) := HC.out.cell 1
            have kC2 : v6.cell? ⟨w.heap.size + 1, 2, none⟩ = some (.int .i64 0) := HC.out.cell 2
            have kC3 : v6.cell? ⟨w.heap.size + 1, 3, none⟩ = some (.int .i64 le) := HC.out.cell 3
            have kC4 : v6.cell? ⟨w.heap.size + 1, 4, none⟩ = some (.bool wa) := HC.out.cell 4
            have kC5 : v6.cell? ⟨w.heap.size + 1, 5, none⟩ = some (.slice A n c) := HC.out.cell 5
            have kL0 : v6.cell? ⟨w.heap.size + 1 + 1, 0, none⟩ = some (.int .u64 a0) := HL.out.cell 0
            have kL1 : v6.cell? ⟨w.heap.size + 1 + 1, 1, none⟩ = some (.int .u64 a1) := HL.out.cell 1
            have kL2 : v6.cell? ⟨w.heap.size + 1 + 1, 2, none⟩ = some (.int .u64 b0) := HL.out.cell 2
            have kL3 : v6.cell? ⟨w.heap.size + 1 + 1, 3, none⟩ = some (.int .u64 b1) := HL.out.cell 3
            have kX0 : v6.cell? ⟨gx, 0, none⟩ = some (.int .i64 p) := HX.out.cell 0
            have kX1 : v6.cell? ⟨gx, 1, none⟩ = some (.int .i64 d) := HX.out.cell 1
            have kX2 : v6.cell? ⟨gx, 2, none⟩ = some (.int .i64 0) := HX.out.cell 2
            have kX3 : v6.cell? ⟨gx, 3, none⟩ = some (.int .i64 le) := HX.out.cell 3
            have kX4 : v6.cell? ⟨gx, 4, none⟩ = some (.bool wa) := HX.out.cell 4
            have kX5 : v6.cell? ⟨gx, 5, none⟩ = some (.slice A n c) := HX.out.cell 5
            have kY0 : v6.cell? ⟨gy, 0, none⟩ = some (.int .i64 y0) := HY.out.cell 0
            have kY1 : v6.cell? ⟨gy, 1, none⟩ = some (.int .i64 d) := HY.out.cell 1
            have kY2 : v6.cell? ⟨gy, 2, none⟩ = some (.int .i64 1) := HY.out.cell 2
            have kY3 : v6.cell? ⟨gy, 3, none⟩ = some (.int .i64 y3) := HY.out.cell 3
            have kY4 : v6.cell? ⟨gy, 4, none⟩ = some (.bool wa) := HY.out.cell 4
            have kY5 : v6.cell? ⟨gy, 5, none⟩ = some (.slice A n c) := HY.out.cell 5
            go_wp2_with fail
            go_ret
            exact ⟨by first | rfl | (simp; done), EE.out⟩
        · have hmm : (y2 != 1) = true := by rw [bne_iff_ne]; exact h6
          go_wp2_with fail
          clear kS0 kS1 kS2 kS3 kS4 kS5 kS6 kS7 kS8 kS9 kS10 kS11 kS12 kC0 kC1 kC2 kC3 kC4 kC5 kL0 kL1 kL2 kL3 kX0 kX1 kX2 kX3 kX4 kX5 lS lC lL lX
          have GS : Blk (v4.alloc (.cells #[.int .i64 y0, .int .i64 y1, .int .i64 y2, .int .i64 y3, .bool wa, .slice A n c] 29)) (w.heap.size) 25 #[.int .i64 (s 0), .int .i64 (s 1), .int .i64 (s 2), .int .i64 (s 3), .int .i64 (s 4), .int .i64 (s 5), .int .i64 (s 6), .int .i64 (s 7), .slice SA sn sc, .int .i64 (s 9), .int .i64 (s 10), .int .i64 (s 11), .int .i64 (s 12)] := HS.out.alloc (.cells #[.int .i64 y0, .int .i64 y1, .int .i64 y2, .int .i64 y3, .bool wa, .slice A n c] 29)
          have GC : Blk (v4.alloc (.cells #[.int .i64 y0, .int .i64 y1, .int .i64 y2, .int .i64 y3, .bool wa, .slice A n c] 29)) (w.heap.size + 1) 29 #[.int .i64 p, .int .i64 d, .int .i64 0, .int .i64 le, .bool wa, .slice A n c] := HC.out.alloc (.cells #[.int .i64 y0, .int .i64 y1, .int .i64 y2, .int .i64 y3, .bool wa, .slice A n c] 29)
          have GL : Blk (v4.alloc (.cells #[.int .i64 y0, .int .i64 y1, .int .i64 y2, .int .i64 y3, .bool wa, .slice A n c] 29)) (w.heap.size + 1 + 1) 33 #[.int .u64 a0, .int .u64 a1, .int .u64 b0, .int .u64 b1] := HL.out.alloc (.cells #[.int .i64 y0, .int .i64 y1, .int .i64 y2, .int .i64 y3, .bool wa, .slice A n c] 29)
          have GX : Blk (v4.alloc (.cells #[.int .i64 y0, .int .i64 y1, .int .i64 y2, .int .i64 y3, .bool wa, .slice A n c] 29)) (gx) 29 #[.int .i64 p, .int .i64 d, .int .i64 0, .int .i64 le, .bool wa, .slice A n c] := HX.out.alloc (.cells #[.int .i64 y0, .int .i64 y1, .int .i64 y2, .int .i64 y3, .bool wa, .slice A n c] 29)
          have GY : Blk (v4.alloc (.cells #[.int .i64 y0, .int .i64 y1, .int .i64 y2, .int .i64 y3, .bool wa, .slice A n c] 29)) (v4.heap.size) 29 #[.int .i64 y0, .int .i64 y1, .int .i64 y2, .int .i64 y3, .bool wa, .slice A n c] := Blk.new v4 _ _
          have GE : Below w.heap.size w (v4.alloc (.cells #[.int .i64 y0, .int .i64 y1, .int .i64 y2, .int .i64 y3, .bool wa, .slice A n c] 29)) := EE.out.alloc EE.out.size (.cells #[.int .i64 y0, .int .i64 y1, .int .i64 y2, .int .i64 y3, .bool wa, .slice A n c] 29)
          obtain ⟨gy, hgy⟩ : ∃ g, v4.heap.size = g := ⟨_, rfl⟩
          have ne4_0 : gy ≠ w.heap.size := by have := HS.out.lt; omega
          have ne0_4 : w.heap.size ≠ gy := by have := HS.out.lt; omega
          have ne4_1 : gy ≠ w.heap.size + 1 := by have := HC.out.lt; omega
          have ne1_4 : w.heap.size + 1 ≠ gy := by have := HC.out.lt; omega
          have ne4_2 : gy ≠ w.heap.size + 1 + 1 := by have := HL.out.lt; omega
          have ne2_4 : w.heap.size + 1 + 1 ≠ gy := by have := HL.out.lt; omega
          have ne4_3 : gy ≠ gx := by have := HX.out.lt; omega
          have ne3_4 : gx ≠ gy := by have := HX.out.lt; omega
          have gegy : w.heap.size ≤ gy := by have := EE.out.size; omega
          rw [hgy] at GY ⊢
          clear hgy
          obtain ⟨v5, hv5⟩ : ∃ V, (v4.alloc (.cells #[.int .i64 y0, .int .i64 y1, .int .i64 y2, .int .i64 y3, .bool wa, .slice A n c] 29)) = V := ⟨_, rfl⟩
          rw [hv5] at GS GC GL GX GY GE ⊢
          have HS := Lib.hid GS
          have HC := Lib.hid GC
          have HL := Lib.hid GL
          have HX := Lib.hid GX
          have HY := Lib.hid GY
          have EE := Lib.hid GE
          clear hv5 GS GC GL GX GY GE
          have kS0 : v5.cell? ⟨w.heap.size, 0, none⟩ = some (.int .i64 (s 0)) := HS.out.cell 0
          have kS1 : v5.cell? ⟨w.heap.size, 1, none⟩ = some (.int .i64 (s 1)) := HS.out.cell 1
          have kS2 : v5.cell? ⟨w.heap.size, 2, none⟩ = some (.int .i64 (s 2)) := HS.out.cell 2
          have kS3 : v5.cell? ⟨w.heap.size, 3, none⟩ = some (.int .i64 (s 3)) := HS.out.cell 3
          have kS4 : v5.cell? ⟨w.heap.size, 4, none⟩ = some (.int .i64 (s 4)) := HS.out.cell 4
          have kS5 : v5.cell? ⟨w.heap.size, 5, none⟩ = some (.int .i64 (s 5)) := HS.out.cell 5
          have kS6 : v5.cell? ⟨w.heap.size, 6, none⟩ = some (.int .i64 (s 6)) := HS.out.cell 6
          have kS7 : v5.cell? ⟨w.heap.size, 7, none⟩ = some (.int .i64 (s 7)) := HS.out.cell 7
          have kS8 : v5.cell? ⟨w.heap.size, 8, none⟩ = some (.slice SA sn sc) := HS.out.cell 8
          have kS9 : v5.cell? ⟨w.heap.size, 9, none⟩ = some (.int .i64 (s 9)) := HS.out.cell 9
          have kS10 : v5.cell? ⟨w.heap.size, 10, none⟩ = some (.int .i64 (s 10)) := HS.out.cell 10
          have kS11 : v5.cell? ⟨w.heap.size, 11, none⟩ = some (.int .i64 (s 11)) := HS.out.cell 11
          have kS12 : v5.cell? ⟨w.heap.size, 12, none⟩ = some (.int .i64 (s 12)) := HS.out.cell 12
          have kC0 : v5.cell? ⟨w.heap.size + 1, 0, none⟩ = some (.int .i64 p) := HC.out.cell 0
          have kC1 : v5.cell? ⟨w.heap.size + 1, 1, none⟩ = some (.int .i64 d) := HC.out.cell 1
          have kC2 : v5.cell? ⟨w.heap.size + 1, 2, none⟩ = some (.int .i64 0) := HC.out.cell 2
          have kC3 : v5.cell? ⟨w.heap.size + 1, 3, none⟩ = some (.int .i64 le) := HC.out.cell 3
          have kC4 : v5.cell? ⟨w.heap.size + 1, 4, none⟩ = some (.bool wa) := HC.out.cell 4
          have kC5 : v5.cell? ⟨w.heap.size + 1, 5, none⟩ = some (.slice A n c) := HC.out.cell 5
          have kL0 : v5.cell? ⟨w.heap.size + 1 + 1, 0, none⟩ = some (.int .u64 a0) := HL.out.cell 0
          have kL1 : v5.cell? ⟨w.heap.size + 1 + 1, 1, none⟩ = some (.int .u64 a1) := HL.out.cell 1
          have kL2 : v5.cell? ⟨w.heap.size + 1 + 1, 2, none⟩ = some (.int .u64 b0) := HL.out.cell 2
          have kL3 : v5.cell? ⟨w.heap.size + 1 + 1, 3, none⟩ = some (.int .u64 b1) := HL.out.cell 3
          have kX0 : v5.cell? ⟨gx, 0, none⟩ = some (.int .i64 p) := HX.out.cell 0
          have kX1 : v5.cell? ⟨gx, 1, none⟩ = some (.int .i64 d) := HX.out.cell 1
          have kX2 : v5.cell? ⟨gx, 2, none⟩ = some (.int .i64 0) := HX.out.cell 2
          have kX3 : v5.cell? ⟨gx, 3, none⟩ = some (.int .i64 le) := HX.out.cell 3
          have kX4 : v5.cell? ⟨gx, 4, none⟩ = some (.bool wa) := HX.out.cell 4
          have kX5 : v5.cell? ⟨gx, 5, none⟩ = some (.slice A n c) := HX.out.cell 5
          have kY0 : v5.cell? ⟨gy, 0, none⟩ = some (.int .i64 y0) := HY.out.cell 0
          have kY1 : v5.cell? ⟨gy, 1, none⟩ = some (.int .i64 y1) := HY.out.cell 1
          have kY2 : v5.cell? ⟨gy, 2, none⟩ = some (.int .i64 y2) := HY.out.cell 2
          have kY3 : v5.cell? ⟨gy, 3, none⟩ = some (.int .i64 y3) := HY.out.cell 3
          have kY4 : v5.cell? ⟨gy, 4, none⟩ = some (.bool wa) := HY.out.cell 4
          have kY5 : v5.cell? ⟨gy, 5, none⟩ = some (.slice A n c) := HY.out.cell 5
          refine (qalive _).mono ?_
          rintro e v6 ⟨rfl, hb⟩
          clear kS0 kS1 kS2 kS3 kS4 kS5 kS6 kS7 kS8 kS9 kS10 kS11 kS12 kC0 kC1 kC2 kC3 kC4 kC5 kL0 kL1 kL2 kL3 kX0 kX1 kX2 kX3 kX4 kX5 kY0 kY1 kY2 kY3 kY4 kY5
          have HS := Lib.hid (Blk.next (w := v5) HS.out hb)
          have HC := Lib.hid (Blk.next (w := v5) HC.out hb)
          have HL := Lib.hid (Blk.next (w := v5) HL.out hb)
          have HX := Lib.hid (Blk.next (w := v5) HX.out hb)
          have HY := Lib.hid (Blk.next (w := v5) HY.out hb)
          have EE := Lib.hid (EE.out.trans (hb.mono EE.out.size))
          clear hb
          have kS0 : v6.cell? ⟨w.heap.size, 0, none⟩ = some (.int .i64 (s 0)) := HS.out.cell 0
          have kS1 : v6.cell? ⟨w.heap.size, 1, none⟩ = some (.int .i64 (s 1)) := HS.out.cell 1
          have kS2 : v6.cell? ⟨w.heap.size, 2, none⟩ = some (.int .i64 (s 2)) := HS.out.cell 2
          have kS3 : v6.cell? ⟨w.heap.size, 3, none⟩ = some (.int .i64 (s 3)) := HS.out.cell 3
          have kS4 : v6.cell? ⟨w.heap.size, 4, none⟩ = some (.int .i64 (s 4)) := HS.out.cell 4
          have kS5 : v6.cell? ⟨w.heap.size, 5, none⟩ = some (.int .i64 (s 5)) := HS.out.cell 5
          have kS6 : v6.cell? ⟨w.heap.size, 6, none⟩ = some (.int .i64 (s 6)) := HS.out.cell 6
          have kS7 : v6.cell? ⟨w.heap.size, 7, none⟩ = some (.int .i64 (s 7)) := HS.out.cell 7
          have kS8 : v6.cell? ⟨w.heap.size, 8, none⟩ = some (.slice SA sn sc) := HS.out.cell 8
          have kS9 : v6.cell? ⟨w.heap.size, 9, none⟩ = some (.int .i64 (s 9)) := HS.out.cell 9
          have kS10 : v6.cell? ⟨w.heap.size, 10, none⟩ = some (.int .i64 (s 10)) := HS.out.cell 10
          have kS11 : v6.cell? ⟨w.heap.size, 11, none⟩ = some (.int .i64 (s 11)) := HS.out.cell 11
          have kS12 : v6.cell? ⟨w.heap.size, 12, none⟩ = some (.int .i64 (s 12)) := HS.out.cell 12
          have kC0 : v6.cell? ⟨w.heap.size + 1, 0, none⟩ = some (.int .i64 p) := HC.out.cell 0
          have kC1 : v6.cell? ⟨w.heap.size + 1, 1, none⟩ = some (.int .i64 d) := HC.out.cell 1
          have kC2 : v6.cell? ⟨w.heap.size + 1, 2, none⟩ = some (.int .i64 0) := HC.out.cell 2
          have kC3 : v6.cell? ⟨w.heap.size + 1, 3, none⟩ = some (.int .i64 le) := HC.out.cell 3
          have kC4 : v6.cell? ⟨w.heap.size + 1, 4, none⟩ = some (.bool wa) := HC.out.cell 4
          have kC5 : v6.cell? ⟨w.heap.size + 1, 5, none⟩ = some (.slice A n c) := HC.out.cell 5
          have kL0 : v6.cell? ⟨w.heap.size + 1 + 1, 0, none⟩ = some (.int .u64 a0) := HL.out.cell 0
          have kL1 : v6.cell? ⟨w.heap.size + 1 + 1, 1, none⟩ = some (.int .u64 a1) := HL.out.cell 1
          have kL2 : v6.cell? ⟨w.heap.size + 1 + 1, 2, none⟩ = some (.int .u64 b0) := HL.out.cell 2
          have kL3 : v6.cell? ⟨w.heap.size + 1 + 1, 3, none⟩ = some (.int .u64 b1) := HL.out.cell 3
          have kX0 : v6.cell? ⟨gx, 0, none⟩ = some (.int .i64 p) := HX.out.cell 0
          have kX1 : v6.cell? ⟨gx, 1, none⟩ = some (.int .i64 d) := HX.out.cell 1
          have kX2 : v6.cell? ⟨gx, 2, none⟩ = some (.int .i64 0) := HX.out.cell 2
          have kX3 : v6.cell? ⟨gx, 3, none⟩ = some (.int .i64 le) := HX.out.cell 3
          have kX4 : v6.cell? ⟨gx, 4, none⟩ = some (.bool wa) := HX.out.cell 4
          have kX5 : v6.cell? ⟨gx, 5, none⟩ = some (.slice A n c) := HX.out.cell 5
          have kY0 : v6.cell? ⟨gy, 0, none⟩ = some (.int .i64 y0) := HY.out.cell 0
          have kY1 : v6.cell? ⟨gy, 1, none⟩ = some (.int .i64 y1) := HY.out.cell 1
          have kY2 : v6.cell? ⟨gy, 2, none⟩ = some (.int .i64 y2) := HY.out.cell 2
          have kY3 : v6.cell? ⟨gy, 3, none⟩ = some (.int .i64 y3) := HY.out.cell 3
          have kY4 : v6.cell? ⟨gy, 4, none⟩ = some (.bool wa) := HY.out.cell 4
          have kY5 : v6.cell? ⟨gy, 5, none⟩ = some (.slice A n c) := HY.out.cell 5
          go_wp2_with fail
          go_ret
          exact ⟨by first | rfl | (simp; done), EE.out⟩
end Go.Proofs.Ytffcmfpadaebdaa
