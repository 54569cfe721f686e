/- The walk of QuietNext: it answers true for every input, and leaves all old blocks as they were. No condition. -/
import Derived.Test.YtffcmfpadaebdaaRows
import Derived.Test.YtffcmfpadaebdaaKitM
import Derived.Test.YtffcmfpadaebdaaBitM
import Derived.Test.YtffcmfpadaebdaaCarM
import Derived.Test.YtffcmfpadaebdaaFaceB
import Derived.Test.YtffcmfpadaebdaaFaceC
import Derived.Test.YtffcmfpadaebdaaFaceD
import Derived.Test.YtffcmfpadaebdaaFaceE
import Derived.Test.YtffcmfpadaebdaaPlaceA
import Derived.Test.YtffcmfpadaebdaaMoveMath
import Derived.Test.YtffcmfpadaebdaaMoveD
import Derived.Test.YtffcmfpadaebdaaMoveE
import Derived.Test.YtffcmfpadaebdaaMoveF
import Derived.Test.YtffcmfpadaebdaaMoveG
import Derived.Test.YtffcmfpadaebdaaMoveH
import Derived.Test.YtffcmfpadaebdaaMoveI
import Derived.Test.YtffcmfpadaebdaaMoveJ
import Derived.Test.YtffcmfpadaebdaaMoveK
import Derived.Test.YtffcmfpadaebdaaNearH
import Derived.Test.YtffcmfpadaebdaaStops
import Derived.Test.YtffcmfpadaebdaaMoveB
import Derived.Test.YtffcmfpadaebdaaMoveC
import Derived.Test.YtffcmfpadaebdaaMoveL
import Derived.Test.YtffcmfpadaebdaaMoveN
import Derived.Test.YtffcmfpadaebdaaMoveO
import Derived.WalkKit
import Derived.ProofKit
import Derived.OpenShut
import Derived.Deep.QuietTactic
import Derived.BigQuiet
import Derived.Lib.SmallJoins
import Derived.Lib.Hide
import Derived.WalkSpells
import Derived.WalkLawsBesides
import Derived.OwnWalk
import Derived.BigRegion
import Derived.Deep.LoopGhost
import Derived.Deep.RegionHeld3
import Derived.IntWalk
namespace Go.Proofs.Ytffcmfpadaebdaa.quietNext
open Go.ChangeShapes Go.WideShapes Go.ChangeAt Go.RowKit Go.Joins
set_option linter.unusedSimpArgs false
set_option linter.unusedVariables false

set_option maxRecDepth 100000 in
set_option maxHeartbeats 40000000 in
theorem walk_f (s : Nat → Int) (SA : Option Addr) (sn sc : Nat) (sz : Nat → Nat → Int) (p d md le : Int) (wa : Bool) (A : Option Addr) (n c : Nat) (z : Nat → Nat → Int) (a0 a1 b0 b1 : Nat) (w : World) (hs : RdZ w 3 SA sn sz) (hr : RdZ w 2 A n z) (hp : (Lit.int .i64 p).wf = true) (hd : (Lit.int .i64 d).wf = true) (hmd : (Lit.int .i64 md).wf = true) (hle : (Lit.int .i64 le).wf = true) (hnc : n ≤ c) (hcm : c ≤ maxLen) (h0 : a0 < 18446744073709551616) (h1 : a1 < 18446744073709551616) (h2 : b0 < 18446744073709551616) (h3 : b1 < 18446744073709551616) :
    Calls Try.prog 5 #[scnV s SA sn sc, carV p d md le wa A n c, .agg #[.int .u64 a0, .int .u64 a1, .int .u64 b0, .int .u64 b1]] w fun e w' => e = .returned (.bool true) ∧ Below w.heap.size w w' := by
  have FI := fun w hs hr => fine_any s SA sn sc sz p d md le wa A n c z a0 a1 b0 b1 w hs hr hp hd hmd hle hnc hcm h0 h1 h2 h3
  have QG := fun q r w (hr : RdZ w 2 A n z) => qnext_go s SA sn sc p d le wa A n c z (mem a0 a1) (mem b0 b1) q r w hr
  have QI := fun q r w (hr : RdZ w 2 A n z) => qnext_idle s SA sn sc p d le wa A n c z (mem a0 a1) (mem b0 b1) q r w hr
  have QD := fun w hm => qnext_door s SA sn sc p d md le wa A n c (mem a0 a1) (mem b0 b1) w hm
  have RA := fun N F top w (hr : RdZ w 2 A n z) => rahead_any s SA sn sc p d le wa A n c z (mem a0 a1) (mem b0 b1) N F top w hr
  have SE := fun w hr hl => rsee31_any p d 0 le wa A n c z (s 3) (mem a0 a1) (mem b0 b1) w hr hl
  have ST := fun q w hr hl hd => rstop31_any (waF z n (s 3) (mem a0 a1) (mem b0 b1)) (laF n (s 3) (mem a0 a1)) (laF n (s 3) (mem b0 b1)) q p d 0 le wa A n c z w hr hl hd
  have WY := fun q w hd => rofS_any (waF z n (s 3) (mem a0 a1) (mem b0 b1)) (laF n (s 3) (mem a0 a1)) (laF n (s 3) (mem b0 b1)) q d w hd
  rw [← setV_mem h0 h1, ← setV_mem h2 h3] at QG QI QD RA SE
  have HRd := Lib.hid hr
  have HSZ := Lib.hid hs
  clear hs hr hp hd hmd hle h0 h1 h2 h3 hnc hcm
  unfold restB at QI
  unfold scnV carV at *
  unfold sgtV at SE ST WY
  obtain ⟨u0, hu0⟩ : ∃ x, wordX (laF n (s 3) (mem a0 a1)) = x := ⟨_, rfl⟩
  obtain ⟨u1, hu1⟩ : ∃ x, wordY (laF n (s 3) (mem a0 a1)) = x := ⟨_, rfl⟩
  obtain ⟨l0, hl0⟩ : ∃ x, wordX (laF n (s 3) (mem b0 b1)) = x := ⟨_, rfl⟩
  obtain ⟨l1, hl1⟩ : ∃ x, wordY (laF n (s 3) (mem b0 b1)) = x := ⟨_, rfl⟩
  obtain ⟨t0, ht0⟩ : ∃ x, wordX (waF z n (s 3) (mem a0 a1) (mem b0 b1)) = x := ⟨_, rfl⟩
  obtain ⟨t1, ht1⟩ : ∃ x, wordY (waF z n (s 3) (mem a0 a1) (mem b0 b1)) = x := ⟨_, rfl⟩
  simp only [hu0, hu1, hl0, hl1, ht0, ht1] at SE ST WY
  clear hu0 hu1 hl0 hl1 ht0 ht1
  replace FI := Lib.hid FI; replace QG := Lib.hid QG; replace QI := Lib.hid QI; replace QD := Lib.hid QD; replace RA := Lib.hid RA; replace SE := Lib.hid SE; replace ST := Lib.hid ST; replace WY := Lib.hid WY
  go_enter Try.func5, Try.ntmps5
  go_wp2_with fail
  have BS := ((Blk.new w #[.int .i64 (s 0), .int .i64 (s 1), .int .i64 (s 2), .int .i64 (s 3), .int .i64 (s 4), .int .i64 (s 5), .int .i64 (s 6), .int .i64 (s 7), .slice SA sn sc, .int .i64 (s 9), .int .i64 (s 10), .int .i64 (s 11), .int .i64 (s 12)] 25).alloc (.cells #[.int .i64 p, .int .i64 d, .int .i64 md, .int .i64 le, .bool wa, .slice A n c] 29)).alloc (.cells #[.int .u64 a0, .int .u64 a1, .int .u64 b0, .int .u64 b1] 33)
  have BC := (Blk.new (w.alloc (.cells #[.int .i64 (s 0), .int .i64 (s 1), .int .i64 (s 2), .int .i64 (s 3), .int .i64 (s 4), .int .i64 (s 5), .int .i64 (s 6), .int .i64 (s 7), .slice SA sn sc, .int .i64 (s 9), .int .i64 (s 10), .int .i64 (s 11), .int .i64 (s 12)] 25)) #[.int .i64 p, .int .i64 d, .int .i64 md, .int .i64 le, .bool wa, .slice A n c] 29).alloc (.cells #[.int .u64 a0, .int .u64 a1, .int .u64 b0, .int .u64 b1] 33)
  rw [World.size_alloc] at BC
  have BL := Blk.new ((w.alloc (.cells #[.int .i64 (s 0), .int .i64 (s 1), .int .i64 (s 2), .int .i64 (s 3), .int .i64 (s 4), .int .i64 (s 5), .int .i64 (s 6), .int .i64 (s 7), .slice SA sn sc, .int .i64 (s 9), .int .i64 (s 10), .int .i64 (s 11), .int .i64 (s 12)] 25)).alloc (.cells #[.int .i64 p, .int .i64 d, .int .i64 md, .int .i64 le, .bool wa, .slice A n c] 29)) #[.int .u64 a0, .int .u64 a1, .int .u64 b0, .int .u64 b1] 33
  rw [World.size_alloc, World.size_alloc] at BL
  have BE : Below w.heap.size w (((w.alloc (.cells #[.int .i64 (s 0), .int .i64 (s 1), .int .i64 (s 2), .int .i64 (s 3), .int .i64 (s 4), .int .i64 (s 5), .int .i64 (s 6), .int .i64 (s 7), .slice SA sn sc, .int .i64 (s 9), .int .i64 (s 10), .int .i64 (s 11), .int .i64 (s 12)] 25)).alloc (.cells #[.int .i64 p, .int .i64 d, .int .i64 md, .int .i64 le, .bool wa, .slice A n c] 29)).alloc (.cells #[.int .u64 a0, .int .u64 a1, .int .u64 b0, .int .u64 b1] 33)) := (((Below.refl w.heap.size w).alloc (Nat.le_refl _) _).alloc (by simp <;> omega) _).alloc (by simp <;> omega) _
  obtain ⟨V0, hV0⟩ : ∃ V, (((w.alloc (.cells #[.int .i64 (s 0), .int .i64 (s 1), .int .i64 (s 2), .int .i64 (s 3), .int .i64 (s 4), .int .i64 (s 5), .int .i64 (s 6), .int .i64 (s 7), .slice SA sn sc, .int .i64 (s 9), .int .i64 (s 10), .int .i64 (s 11), .int .i64 (s 12)] 25)).alloc (.cells #[.int .i64 p, .int .i64 d, .int .i64 md, .int .i64 le, .bool wa, .slice A n c] 29)).alloc (.cells #[.int .u64 a0, .int .u64 a1, .int .u64 b0, .int .u64 b1] 33)) = V := ⟨_, rfl⟩
  rw [hV0] at BS BC BL BE ⊢
  have HS := Lib.hid BS
  have HC := Lib.hid BC
  have HL := Lib.hid BL
  have EE := Lib.hid BE
  have ne0_1 : w.heap.size ≠ w.heap.size + 1 := by omega
  have ne0_2 : w.heap.size ≠ w.heap.size + 1 + 1 := by omega
  have ne1_0 : w.heap.size + 1 ≠ w.heap.size := by omega
  have ne1_2 : w.heap.size + 1 ≠ w.heap.size + 1 + 1 := by omega
  have ne2_0 : w.heap.size + 1 + 1 ≠ w.heap.size := by omega
  have ne2_1 : w.heap.size + 1 + 1 ≠ w.heap.size + 1 := by omega
  clear hV0 BE BS BC BL
  have kS0 : V0.cell? ⟨w.heap.size, 0, none⟩ = some (.int .i64 (s 0)) := HS.out.cell 0
  have kS1 : V0.cell? ⟨w.heap.size, 1, none⟩ = some (.int .i64 (s 1)) := HS.out.cell 1
  have kS2 : V0.cell? ⟨w.heap.size, 2, none⟩ = some (.int .i64 (s 2)) := HS.out.cell 2
  have kS3 : V0.cell? ⟨w.heap.size, 3, none⟩ = some (.int .i64 (s 3)) := HS.out.cell 3
  have kS4 : V0.cell? ⟨w.heap.size, 4, none⟩ = some (.int .i64 (s 4)) := HS.out.cell 4
  have kS5 : V0.cell? ⟨w.heap.size, 5, none⟩ = some (.int .i64 (s 5)) := HS.out.cell 5
  have kS6 : V0.cell? ⟨w.heap.size, 6, none⟩ = some (.int .i64 (s 6)) := HS.out.cell 6
  have kS7 : V0.cell? ⟨w.heap.size, 7, none⟩ = some (.int .i64 (s 7)) := HS.out.cell 7
  have kS8 : V0.cell? ⟨w.heap.size, 8, none⟩ = some (.slice SA sn sc) := HS.out.cell 8
  have kS9 : V0.cell? ⟨w.heap.size, 9, none⟩ = some (.int .i64 (s 9)) := HS.out.cell 9
  have kS10 : V0.cell? ⟨w.heap.size, 10, none⟩ = some (.int .i64 (s 10)) := HS.out.cell 10
  have kS11 : V0.cell? ⟨w.heap.size, 11, none⟩ = some (.int .i64 (s 11)) := HS.out.cell 11
  have kS12 : V0.cell? ⟨w.heap.size, 12, none⟩ = some (.int .i64 (s 12)) := HS.out.cell 12
  have kC0 : V0.cell? ⟨w.heap.size + 1, 0, none⟩ = some (.int .i64 p) := HC.out.cell 0
  have kC1 : V0.cell? ⟨w.heap.size + 1, 1, none⟩ = some (.int .i64 d) := HC.out.cell 1
  have kC2 : V0.cell? ⟨w.heap.size + 1, 2, none⟩ = some (.int .i64 md) := HC.out.cell 2
  have kC3 : V0.cell? ⟨w.heap.size + 1, 3, none⟩ = some (.int .i64 le) := HC.out.cell 3
  have kC4 : V0.cell? ⟨w.heap.size + 1, 4, none⟩ = some (.bool wa) := HC.out.cell 4
  have kC5 : V0.cell? ⟨w.heap.size + 1, 5, none⟩ = some (.slice A n c) := HC.out.cell 5
  have kL0 : V0.cell? ⟨w.heap.size + 1 + 1, 0, none⟩ = some (.int .u64 a0) := HL.out.cell 0
  have kL1 : V0.cell? ⟨w.heap.size + 1 + 1, 1, none⟩ = some (.int .u64 a1) := HL.out.cell 1
  have kL2 : V0.cell? ⟨w.heap.size + 1 + 1, 2, none⟩ = some (.int .u64 b0) := HL.out.cell 2
  have kL3 : V0.cell? ⟨w.heap.size + 1 + 1, 3, none⟩ = some (.int .u64 b1) := HL.out.cell 3
  refine (FI.out _ (HSZ.out.kept EE.out) (HRd.out.kept EE.out)).mono ?_
  rintro e v1 ⟨b, rfl, hb, hF⟩
  clear kS0 kS1 kS2 kS3 kS4 kS5 kS6 kS7 kS8 kS9 kS10 kS11 kS12 kC0 kC1 kC2 kC3 kC4 kC5 kL0 kL1 kL2 kL3
  have HS := Lib.hid (Blk.next (w := V0) HS.out hb)
  have HC := Lib.hid (Blk.next (w := V0) HC.out hb)
  have HL := Lib.hid (Blk.next (w := V0) HL.out hb)
  have EE := Lib.hid (EE.out.trans (hb.mono EE.out.size))
  clear hb
  have kS0 : v1.cell? ⟨w.heap.size, 0, none⟩ = some (.int .i64 (s 0)) := HS.out.cell 0
  have kS1 : v1.cell? ⟨w.heap.size, 1, none⟩ = some (.int .i64 (s 1)) := HS.out.cell 1
  have kS2 : v1.cell? ⟨w.heap.size, 2, none⟩ = some (.int .i64 (s 2)) := HS.out.cell 2
  have kS3 : v1.cell? ⟨w.heap.size, 3, none⟩ = some (.int .i64 (s 3)) := HS.out.cell 3
  have kS4 : v1.cell? ⟨w.heap.size, 4, none⟩ = some (.int .i64 (s 4)) := HS.out.cell 4
  have kS5 : v1.cell? ⟨w.heap.size, 5, none⟩ = some (.int .i64 (s 5)) := HS.out.cell 5
  have kS6 : v1.cell? ⟨w.heap.size, 6, none⟩ = some (.int .i64 (s 6)) := HS.out.cell 6
  have kS7 : v1.cell? ⟨w.heap.size, 7, none⟩ = some (.int .i64 (s 7)) := HS.out.cell 7
  have kS8 : v1.cell? ⟨w.heap.size, 8, none⟩ = some (.slice SA sn sc) := HS.out.cell 8
  have kS9 : v1.cell? ⟨w.heap.size, 9, none⟩ = some (.int .i64 (s 9)) := HS.out.cell 9
  have kS10 : v1.cell? ⟨w.heap.size, 10, none⟩ = some (.int .i64 (s 10)) := HS.out.cell 10
  have kS11 : v1.cell? ⟨w.heap.size, 11, none⟩ = some (.int .i64 (s 11)) := HS.out.cell 11
  have kS12 : v1.cell? ⟨w.heap.size, 12, none⟩ = some (.int .i64 (s 12)) := HS.out.cell 12
  have kC0 : v1.cell? ⟨w.heap.size + 1, 0, none⟩ = some (.int .i64 p) := HC.out.cell 0
  have kC1 : v1.cell? ⟨w.heap.size + 1, 1, none⟩ = some (.int .i64 d) := HC.out.cell 1
  have kC2 : v1.cell? ⟨w.heap.size + 1, 2, none⟩ = some (.int .i64 md) := HC.out.cell 2
  have kC3 : v1.cell? ⟨w.heap.size + 1, 3, none⟩ = some (.int .i64 le) := HC.out.cell 3
  have kC4 : v1.cell? ⟨w.heap.size + 1, 4, none⟩ = some (.bool wa) := HC.out.cell 4
  have kC5 : v1.cell? ⟨w.heap.size + 1, 5, none⟩ = some (.slice A n c) := HC.out.cell 5
  have kL0 : v1.cell? ⟨w.heap.size + 1 + 1, 0, none⟩ = some (.int .u64 a0) := HL.out.cell 0
  have kL1 : v1.cell? ⟨w.heap.size + 1 + 1, 1, none⟩ = some (.int .u64 a1) := HL.out.cell 1
  have kL2 : v1.cell? ⟨w.heap.size + 1 + 1, 2, none⟩ = some (.int .u64 b0) := HL.out.cell 2
  have kL3 : v1.cell? ⟨w.heap.size + 1 + 1, 3, none⟩ = some (.int .u64 b1) := HL.out.cell 3
  cases b
  · clear hF
    go_wp2_with fail
    go_ret
    exact ⟨rfl, EE.out⟩
  · obtain ⟨HB, hq0, hq1, hq2⟩ := hF rfl
    have HBh := Lib.hid HB
    have IC := HB.car
    obtain ⟨p0, p1, d0, d1, m0, m1, l0', l1', k1⟩ := IC
    have s00 := HB.s00; have s01 := HB.s01; have s10 := HB.s10; have s11 := HB.s11
    have P1 := Lib.hid p1
    have HDr := Lib.hid (show d = 0 ∨ d = 1 ∨ d = -1 by omega)
    clear HB p1 hF
    rcases (show md = 1 ∨ md = 0 ∨ (md = 2 ∨ md = 3 ∨ md = 4) by omega) with h6 | h6 | h6
    · have hdn := hq1 h6
      subst h6
      clear hq0 hq1 hq2 QI QD SE ST WY
      have HD1 : Hid (d = 1 ∨ d = -1) := Lib.hid (by omega)
      obtain ⟨qq, hq⟩ : ∃ q, p / s 1 = q := ⟨_, rfl⟩
      obtain ⟨r, hrr⟩ : ∃ r, p % s 1 = r := ⟨_, rfl⟩
      have ey : p = qq * s 1 + r := by rw [← hq, ← hrr, Int.mul_comm]; exact (Int.mul_ediv_add_emod p (s 1)).symm
      have r0 : 0 ≤ r := by rw [← hrr]; exact Int.emod_nonneg _ (by omega)
      have r1 : r < s 1 := by rw [← hrr]; exact Int.emod_lt_of_pos _ (by omega)
      have T1 : (s 0 - 1) * s 1 ≤ 127 * 16 := Int.mul_le_mul (by omega) (by omega) (by omega) (by omega)
      have MB := Lib.hid (fun w hr => QG.out qq r w hr (by omega) s10 s11 s00 s01 p0 P1.out r0 r1 ey HD1.out (fun f f0 f1 h => pass_in HBh.out (s 3) HD1.out f f0 f1 h))
      clear QG ey r0 r1 hq hrr
      go_wp2_with fail
      refine (MB.out _ (HRd.out.kept EE.out)).mono ?_
      rintro e v2 ⟨N, F, rfl, hpos, hF0, hN, FA, hb⟩
      have XF := floor_in s10 hF0.1 hF0.2
      have RB := Lib.hid (fun w hr => RA.out N F ((s 0 - 1) * s 1) w hr (by omega) s10 s11 HD1.out hN FA hpos (by omega) (fun i hi => (go_within HD1.out hpos p0 P1.out XF.1 XF.2 hi).1))
      clear RA hpos hF0 FA XF T1 MB
      have hNI : (N : Int) ≤ 2100 := by omega
      have hN0 : (0 : Int) ≤ (N : Int) := Int.natCast_nonneg _
      clear kS0 kS1 kS2 kS3 kS4 kS5 kS6 kS7 kS8 kS9 kS10 kS11 kS12 kC0 kC1 kC2 kC3 kC4 kC5 kL0 kL1 kL2 kL3
      have HS := Lib.hid (Blk.next (w := v1) HS.out hb)
      have HC := Lib.hid (Blk.next (w := v1) HC.out hb)
      have HL := Lib.hid (Blk.next (w := v1) HL.out hb)
      have EE := Lib.hid (EE.out.trans (hb.mono EE.out.size))
      clear hb
      have kS0 : v2.cell? ⟨w.heap.size, 0, none⟩ = some (.int .i64 (s 0)) := HS.out.cell 0
      have kS1 : v2.cell? ⟨w.heap.size, 1, none⟩ = some (.int .i64 (s 1)) := HS.out.cell 1
      have kS2 : v2.cell? ⟨w.heap.size, 2, none⟩ = some (.int .i64 (s 2)) := HS.out.cell 2
      have kS3 : v2.cell? ⟨w.heap.size, 3, none⟩ = some (.int .i64 (s 3)) := HS.out.cell 3
      have kS4 : v2.cell? ⟨w.heap.size, 4, none⟩ = some (.int .i64 (s 4)) := HS.out.cell 4
      have kS5 : v2.cell? ⟨w.heap.size, 5, none⟩ = some (.int .i64 (s 5)) := HS.out.cell 5
      have kS6 : v2.cell? ⟨w.heap.size, 6, none⟩ = some (.int .i64 (s 6)) := HS.out.cell 6
      have kS7 : v2.cell? ⟨w.heap.size, 7, none⟩ = some (.int .i64 (s 7)) := HS.out.cell 7
      have kS8 : v2.cell? ⟨w.heap.size, 8, none⟩ = some (.slice SA sn sc) := HS.out.cell 8
      have kS9 : v2.cell? ⟨w.heap.size, 9, none⟩ = some (.int .i64 (s 9)) := HS.out.cell 9
      have kS10 : v2.cell? ⟨w.heap.size, 10, none⟩ = some (.int .i64 (s 10)) := HS.out.cell 10
      have kS11 : v2.cell? ⟨w.heap.size, 11, none⟩ = some (.int .i64 (s 11)) := HS.out.cell 11
      have kS12 : v2.cell? ⟨w.heap.size, 12, none⟩ = some (.int .i64 (s 12)) := HS.out.cell 12
      have kC0 : v2.cell? ⟨w.heap.size + 1, 0, none⟩ = some (.int .i64 p) := HC.out.cell 0
      have kC1 : v2.cell? ⟨w.heap.size + 1, 1, none⟩ = some (.int .i64 d) := HC.out.cell 1
      have kC2 : v2.cell? ⟨w.heap.size + 1, 2, none⟩ = some (.int .i64 1) := HC.out.cell 2
      have kC3 : v2.cell? ⟨w.heap.size + 1, 3, none⟩ = some (.int .i64 le) := HC.out.cell 3
      have kC4 : v2.cell? ⟨w.heap.size + 1, 4, none⟩ = some (.bool wa) := HC.out.cell 4
      have kC5 : v2.cell? ⟨w.heap.size + 1, 5, none⟩ = some (.slice A n c) := HC.out.cell 5
      have kL0 : v2.cell? ⟨w.heap.size + 1 + 1, 0, none⟩ = some (.int .u64 a0) := HL.out.cell 0
      have kL1 : v2.cell? ⟨w.heap.size + 1 + 1, 1, none⟩ = some (.int .u64 a1) := HL.out.cell 1
      have kL2 : v2.cell? ⟨w.heap.size + 1 + 1, 2, none⟩ = some (.int .u64 b0) := HL.out.cell 2
      have kL3 : v2.cell? ⟨w.heap.size + 1 + 1, 3, none⟩ = some (.int .u64 b1) := HL.out.cell 3
      go_wp2_with fail
      refine (RB.out _ (HRd.out.kept EE.out)).mono ?_
      rintro e v3 ⟨rfl, hb⟩
      clear kS0 kS1 kS2 kS3 kS4 kS5 kS6 kS7 kS8 kS9 kS10 kS11 kS12 kC0 kC1 kC2 kC3 kC4 kC5 kL0 kL1 kL2 kL3
      have HS := Lib.hid (Blk.next (w := v2) HS.out hb)
      have HC := Lib.hid (Blk.next (w := v2) HC.out hb)
      have HL := Lib.hid (Blk.next (w := v2) HL.out hb)
      have EE := Lib.hid (EE.out.trans (hb.mono EE.out.size))
      clear hb
      have kS0 : v3.cell? ⟨w.heap.size, 0, none⟩ = some (.int .i64 (s 0)) := HS.out.cell 0
      have kS1 : v3.cell? ⟨w.heap.size, 1, none⟩ = some (.int .i64 (s 1)) := HS.out.cell 1
      have kS2 : v3.cell? ⟨w.heap.size, 2, none⟩ = some (.int .i64 (s 2)) := HS.out.cell 2
      have kS3 : v3.cell? ⟨w.heap.size, 3, none⟩ = some (.int .i64 (s 3)) := HS.out.cell 3
      have kS4 : v3.cell? ⟨w.heap.size, 4, none⟩ = some (.int .i64 (s 4)) := HS.out.cell 4
      have kS5 : v3.cell? ⟨w.heap.size, 5, none⟩ = some (.int .i64 (s 5)) := HS.out.cell 5
      have kS6 : v3.cell? ⟨w.heap.size, 6, none⟩ = some (.int .i64 (s 6)) := HS.out.cell 6
      have kS7 : v3.cell? ⟨w.heap.size, 7, none⟩ = some (.int .i64 (s 7)) := HS.out.cell 7
      have kS8 : v3.cell? ⟨w.heap.size, 8, none⟩ = some (.slice SA sn sc) := HS.out.cell 8
      have kS9 : v3.cell? ⟨w.heap.size, 9, none⟩ = some (.int .i64 (s 9)) := HS.out.cell 9
      have kS10 : v3.cell? ⟨w.heap.size, 10, none⟩ = some (.int .i64 (s 10)) := HS.out.cell 10
      have kS11 : v3.cell? ⟨w.heap.size, 11, none⟩ = some (.int .i64 (s 11)) := HS.out.cell 11
      have kS12 : v3.cell? ⟨w.heap.size, 12, none⟩ = some (.int .i64 (s 12)) := HS.out.cell 12
      have kC0 : v3.cell? ⟨w.heap.size + 1, 0, none⟩ = some (.int .i64 p) := HC.out.cell 0
      have kC1 : v3.cell? ⟨w.heap.size + 1, 1, none⟩ = some (.int .i64 d) := HC.out.cell 1
      have kC2 : v3.cell? ⟨w.heap.size + 1, 2, none⟩ = some (.int .i64 1) := HC.out.cell 2
      have kC3 : v3.cell? ⟨w.heap.size + 1, 3, none⟩ = some (.int .i64 le) := HC.out.cell 3
      have kC4 : v3.cell? ⟨w.heap.size + 1, 4, none⟩ = some (.bool wa) := HC.out.cell 4
      have kC5 : v3.cell? ⟨w.heap.size + 1, 5, none⟩ = some (.slice A n c) := HC.out.cell 5
      have kL0 : v3.cell? ⟨w.heap.size + 1 + 1, 0, none⟩ = some (.int .u64 a0) := HL.out.cell 0
      have kL1 : v3.cell? ⟨w.heap.size + 1 + 1, 1, none⟩ = some (.int .u64 a1) := HL.out.cell 1
      have kL2 : v3.cell? ⟨w.heap.size + 1 + 1, 2, none⟩ = some (.int .u64 b0) := HL.out.cell 2
      have kL3 : v3.cell? ⟨w.heap.size + 1 + 1, 3, none⟩ = some (.int .u64 b1) := HL.out.cell 3
      go_wp2_with fail
      refine (qalive _).mono ?_
      rintro e v4 ⟨rfl, hb⟩
      clear kS0 kS1 kS2 kS3 kS4 kS5 kS6 kS7 kS8 kS9 kS10 kS11 kS12 kC0 kC1 kC2 kC3 kC4 kC5 kL0 kL1 kL2 kL3
      have HS := Lib.hid (Blk.next (w := v3) HS.out hb)
      have HC := Lib.hid (Blk.next (w := v3) HC.out hb)
      have HL := Lib.hid (Blk.next (w := v3) HL.out hb)
      have EE := Lib.hid (EE.out.trans (hb.mono EE.out.size))
      clear hb
      have kS0 : v4.cell? ⟨w.heap.size, 0, none⟩ = some (.int .i64 (s 0)) := HS.out.cell 0
      have kS1 : v4.cell? ⟨w.heap.size, 1, none⟩ = some (.int .i64 (s 1)) := HS.out.cell 1
      have kS2 : v4.cell? ⟨w.heap.size, 2, none⟩ = some (.int .i64 (s 2)) := HS.out.cell 2
      have kS3 : v4.cell? ⟨w.heap.size, 3, none⟩ = some (.int .i64 (s 3)) := HS.out.cell 3
      have kS4 : v4.cell? ⟨w.heap.size, 4, none⟩ = some (.int .i64 (s 4)) := HS.out.cell 4
      have kS5 : v4.cell? ⟨w.heap.size, 5, none⟩ = some (.int .i64 (s 5)) := HS.out.cell 5
      have kS6 : v4.cell? ⟨w.heap.size, 6, none⟩ = some (.int .i64 (s 6)) := HS.out.cell 6
      have kS7 : v4.cell? ⟨w.heap.size, 7, none⟩ = some (.int .i64 (s 7)) := HS.out.cell 7
      have kS8 : v4.cell? ⟨w.heap.size, 8, none⟩ = some (.slice SA sn sc) := HS.out.cell 8
      have kS9 : v4.cell? ⟨w.heap.size, 9, none⟩ = some (.int .i64 (s 9)) := HS.out.cell 9
      have kS10 : v4.cell? ⟨w.heap.size, 10, none⟩ = some (.int .i64 (s 10)) := HS.out.cell 10
      have kS11 : v4.cell? ⟨w.heap.size, 11, none⟩ = some (.int .i64 (s 11)) := HS.out.cell 11
      have kS12 : v4.cell? ⟨w.heap.size, 12, none⟩ = some (.int .i64 (s 12)) := HS.out.cell 12
      have kC0 : v4.cell? ⟨w.heap.size + 1, 0, none⟩ = some (.int .i64 p) := HC.out.cell 0
      have kC1 : v4.cell? ⟨w.heap.size + 1, 1, none⟩ = some (.int .i64 d) := HC.out.cell 1
      have kC2 : v4.cell? ⟨w.heap.size + 1, 2, none⟩ = some (.int .i64 1) := HC.out.cell 2
      have kC3 : v4.cell? ⟨w.heap.size + 1, 3, none⟩ = some (.int .i64 le) := HC.out.cell 3
      have kC4 : v4.cell? ⟨w.heap.size + 1, 4, none⟩ = some (.bool wa) := HC.out.cell 4
      have kC5 : v4.cell? ⟨w.heap.size + 1, 5, none⟩ = some (.slice A n c) := HC.out.cell 5
      have kL0 : v4.cell? ⟨w.heap.size + 1 + 1, 0, none⟩ = some (.int .u64 a0) := HL.out.cell 0
      have kL1 : v4.cell? ⟨w.heap.size + 1 + 1, 1, none⟩ = some (.int .u64 a1) := HL.out.cell 1
      have kL2 : v4.cell? ⟨w.heap.size + 1 + 1, 2, none⟩ = some (.int .u64 b0) := HL.out.cell 2
      have kL3 : v4.cell? ⟨w.heap.size + 1 + 1, 3, none⟩ = some (.int .u64 b1) := HL.out.cell 3
      go_wp2_with fail
      go_ret
      exact ⟨by first | rfl | (simp; done), EE.out⟩
    · have hr0 := hq0 h6
      subst h6
      clear hq0 hq1 hq2 QG QD RA
      obtain ⟨qq, hq⟩ : ∃ q, p / s 1 = q := ⟨_, rfl⟩
      obtain ⟨r, hrr⟩ : ∃ r, p % s 1 = r := ⟨_, rfl⟩
      have ey : p = qq * s 1 + r := by rw [← hq, ← hrr, Int.mul_comm]; exact (Int.mul_ediv_add_emod p (s 1)).symm
      have r0 : 0 ≤ r := by rw [← hrr]; exact Int.emod_nonneg _ (by omega)
      have r1 : r < s 1 := by rw [← hrr]; exact Int.emod_lt_of_pos _ (by omega)
      have T1 : (s 0 - 1) * s 1 ≤ 127 * 16 := Int.mul_le_mul (by omega) (by omega) (by omega) (by omega)
      have hz : (s 1 == 0) = false := by rw [beq_eq_false_iff_ne]; omega
      have P2 := P1.out
      have pB : p ≤ 1048576 := by omega
      have MB := Lib.hid (fun w hr => QI.out qq r w hr (by omega) s10 p0 (by omega) r0 r1 ey)
      have SEh := Lib.hid (fun w hr => SE.out w hr (by omega))
      have STh := Lib.hid (fun w hr => ST.out qq w hr (by omega) HDr.out)
      have WYh := Lib.hid (fun w => WY.out qq w HDr.out)
      clear QI SE ST WY P2 ey r0 r1 hr0 hrr T1
      obtain ⟨st, hst⟩ : ∃ b, stopB (rdF z n) (waF z n (s 3) (mem a0 a1) (mem b0 b1)) (laF n (s 3) (mem a0 a1)) (laF n (s 3) (mem b0 b1)) qq d = b := ⟨_, rfl⟩
      obtain ⟨o, ho⟩ : ∃ b, ofWay (waF z n (s 3) (mem a0 a1) (mem b0 b1)) (laF n (s 3) (mem a0 a1)) (laF n (s 3) (mem b0 b1)) qq d = b := ⟨_, rfl⟩
      rw [hst, ho] at MB
      rw [hst] at STh
      rw [ho] at WYh
      clear hst ho
      by_cases h7 : d = 0
      · subst h7
        simp only [BEq.rfl, Bool.true_and] at MB
        cases st
        · by_cases h8 : o = 0
          · subst h8
            simp only [Bool.not_false, BEq.rfl, Bool.true_and, if_true, Bool.not_true] at MB
            go_wp2_with fail
            refine (MB.out _ (HRd.out.kept EE.out)).mono ?_
            rintro e v2 ⟨rfl, hb⟩
            clear kS0 kS1 kS2 kS3 kS4 kS5 kS6 kS7 kS8 kS9 kS10 kS11 kS12 kC0 kC1 kC2 kC3 kC4 kC5 kL0 kL1 kL2 kL3
            have HS := Lib.hid (Blk.next (w := v1) HS.out hb)
            have HC := Lib.hid (Blk.next (w := v1) HC.out hb)
            have HL := Lib.hid (Blk.next (w := v1) HL.out hb)
            have EE := Lib.hid (EE.out.trans (hb.mono EE.out.size))
            clear hb
            have kS0 : v2.cell? ⟨w.heap.size, 0, none⟩ = some (.int .i64 (s 0)) := HS.out.cell 0
            have kS1 : v2.cell? ⟨w.heap.size, 1, none⟩ = some (.int .i64 (s 1)) := HS.out.cell 1
            have kS2 : v2.cell? ⟨w.heap.size, 2, none⟩ = some (.int .i64 (s 2)) := HS.out.cell 2
            have kS3 : v2.cell? ⟨w.heap.size, 3, none⟩ = some (.int .i64 (s 3)) := HS.out.cell 3
            have kS4 : v2.cell? ⟨w.heap.size, 4, none⟩ = some (.int .i64 (s 4)) := HS.out.cell 4
            have kS5 : v2.cell? ⟨w.heap.size, 5, none⟩ = some (.int .i64 (s 5)) := HS.out.cell 5
            have kS6 : v2.cell? ⟨w.heap.size, 6, none⟩ = some (.int .i64 (s 6)) := HS.out.cell 6
            have kS7 : v2.cell? ⟨w.heap.size, 7, none⟩ = some (.int .i64 (s 7)) := HS.out.cell 7
            have kS8 : v2.cell? ⟨w.heap.size, 8, none⟩ = some (.slice SA sn sc) := HS.out.cell 8
            have kS9 : v2.cell? ⟨w.heap.size, 9, none⟩ = some (.int .i64 (s 9)) := HS.out.cell 9
            have kS10 : v2.cell? ⟨w.heap.size, 10, none⟩ = some (.int .i64 (s 10)) := HS.out.cell 10
            have kS11 : v2.cell? ⟨w.heap.size, 11, none⟩ = some (.int .i64 (s 11)) := HS.out.cell 11
            have kS12 : v2.cell? ⟨w.heap.size, 12, none⟩ = some (.int .i64 (s 12)) := HS.out.cell 12
            have kC0 : v2.cell? ⟨w.heap.size + 1, 0, none⟩ = some (.int .i64 p) := HC.out.cell 0
            have kC1 : v2.cell? ⟨w.heap.size + 1, 1, none⟩ = some (.int .i64 0) := HC.out.cell 1
            have kC2 : v2.cell? ⟨w.heap.size + 1, 2, none⟩ = some (.int .i64 0) := HC.out.cell 2
            have kC3 : v2.cell? ⟨w.heap.size + 1, 3, none⟩ = some (.int .i64 le) := HC.out.cell 3
            have kC4 : v2.cell? ⟨w.heap.size + 1, 4, none⟩ = some (.bool wa) := HC.out.cell 4
            have kC5 : v2.cell? ⟨w.heap.size + 1, 5, none⟩ = some (.slice A n c) := HC.out.cell 5
            have kL0 : v2.cell? ⟨w.heap.size + 1 + 1, 0, none⟩ = some (.int .u64 a0) := HL.out.cell 0
            have kL1 : v2.cell? ⟨w.heap.size + 1 + 1, 1, none⟩ = some (.int .u64 a1) := HL.out.cell 1
            have kL2 : v2.cell? ⟨w.heap.size + 1 + 1, 2, none⟩ = some (.int .u64 b0) := HL.out.cell 2
            have kL3 : v2.cell? ⟨w.heap.size + 1 + 1, 3, none⟩ = some (.int .u64 b1) := HL.out.cell 3
            go_wp2_with fail
            refine (SEh.out _ (HRd.out.kept EE.out)).mono ?_
            rintro e v3 ⟨rfl, hb⟩
            clear kS0 kS1 kS2 kS3 kS4 kS5 kS6 kS7 kS8 kS9 kS10 kS11 kS12 kC0 kC1 kC2 kC3 kC4 kC5 kL0 kL1 kL2 kL3
            have HS := Lib.hid (Blk.next (w := v2) HS.out hb)
            have HC := Lib.hid (Blk.next (w := v2) HC.out hb)
            have HL := Lib.hid (Blk.next (w := v2) HL.out hb)
            have EE := Lib.hid (EE.out.trans (hb.mono EE.out.size))
            clear hb
            have kS0 : v3.cell? ⟨w.heap.size, 0, none⟩ = some (.int .i64 (s 0)) := HS.out.cell 0
            have kS1 : v3.cell? ⟨w.heap.size, 1, none⟩ = some (.int .i64 (s 1)) := HS.out.cell 1
            have kS2 : v3.cell? ⟨w.heap.size, 2, none⟩ = some (.int .i64 (s 2)) := HS.out.cell 2
            have kS3 : v3.cell? ⟨w.heap.size, 3, none⟩ = some (.int .i64 (s 3)) := HS.out.cell 3
            have kS4 : v3.cell? ⟨w.heap.size, 4, none⟩ = some (.int .i64 (s 4)) := HS.out.cell 4
            have kS5 : v3.cell? ⟨w.heap.size, 5, none⟩ = some (.int .i64 (s 5)) := HS.out.cell 5
            have kS6 : v3.cell? ⟨w.heap.size, 6, none⟩ = some (.int .i64 (s 6)) := HS.out.cell 6
            have kS7 : v3.cell? ⟨w.heap.size, 7, none⟩ = some (.int .i64 (s 7)) := HS.out.cell 7
            have kS8 : v3.cell? ⟨w.heap.size, 8, none⟩ = some (.slice SA sn sc) := HS.out.cell 8
            have kS9 : v3.cell? ⟨w.heap.size, 9, none⟩ = some (.int .i64 (s 9)) := HS.out.cell 9
            have kS10 : v3.cell? ⟨w.heap.size, 10, none⟩ = some (.int .i64 (s 10)) := HS.out.cell 10
            have kS11 : v3.cell? ⟨w.heap.size, 11, none⟩ = some (.int .i64 (s 11)) := HS.out.cell 11
            have kS12 : v3.cell? ⟨w.heap.size, 12, none⟩ = some (.int .i64 (s 12)) := HS.out.cell 12
            have kC0 : v3.cell? ⟨w.heap.size + 1, 0, none⟩ = some (.int .i64 p) := HC.out.cell 0
            have kC1 : v3.cell? ⟨w.heap.size + 1, 1, none⟩ = some (.int .i64 0) := HC.out.cell 1
            have kC2 : v3.cell? ⟨w.heap.size + 1, 2, none⟩ = some (.int .i64 0) := HC.out.cell 2
            have kC3 : v3.cell? ⟨w.heap.size + 1, 3, none⟩ = some (.int .i64 le) := HC.out.cell 3
            have kC4 : v3.cell? ⟨w.heap.size + 1, 4, none⟩ = some (.bool wa) := HC.out.cell 4
            have kC5 : v3.cell? ⟨w.heap.size + 1, 5, none⟩ = some (.slice A n c) := HC.out.cell 5
            have kL0 : v3.cell? ⟨w.heap.size + 1 + 1, 0, none⟩ = some (.int .u64 a0) := HL.out.cell 0
            have kL1 : v3.cell? ⟨w.heap.size + 1 + 1, 1, none⟩ = some (.int .u64 a1) := HL.out.cell 1
            have kL2 : v3.cell? ⟨w.heap.size + 1 + 1, 2, none⟩ = some (.int .u64 b0) := HL.out.cell 2
            have kL3 : v3.cell? ⟨w.heap.size + 1 + 1, 3, none⟩ = some (.int .u64 b1) := HL.out.cell 3
            have lS := HS.out.lt
            have lC := HC.out.lt
            have lL := HL.out.lt
            go_wp2_with fail
            clear kS0 kS1 kS2 kS3 kS4 kS5 kS6 kS7 kS8 kS9 kS10 kS11 kS12 kC0 kC1 kC2 kC3 kC4 kC5 kL0 kL1 kL2 kL3 lS lC lL
            have GS : Blk (v3.alloc (.cells #[.int .u64 t0, .int .u64 t1, .int .u64 u0, .int .u64 u1, .int .u64 l0, .int .u64 l1] 43)) (w.heap.size) 25 #[.int .i64 (s 0), .int .i64 (s 1), .int .i64 (s 2), .int .i64 (s 3), .int .i64 (s 4), .int .i64 (s 5), .int .i64 (s 6), .int .i64 (s 7), .slice SA sn sc, .int .i64 (s 9), .int .i64 (s 10), .int .i64 (s 11), .int .i64 (s 12)] := HS.out.alloc (.cells #[.int .u64 t0, .int .u64 t1, .int .u64 u0, .int .u64 u1, .int .u64 l0, .int .u64 l1] 43)
            have GC : Blk (v3.alloc (.cells #[.int .u64 t0, .int .u64 t1, .int .u64 u0, .int .u64 u1, .int .u64 l0, .int .u64 l1] 43)) (w.heap.size + 1) 29 #[.int .i64 p, .int .i64 0, .int .i64 0, .int .i64 le, .bool wa, .slice A n c] := HC.out.alloc (.cells #[.int .u64 t0, .int .u64 t1, .int .u64 u0, .int .u64 u1, .int .u64 l0, .int .u64 l1] 43)
            have GL : Blk (v3.alloc (.cells #[.int .u64 t0, .int .u64 t1, .int .u64 u0, .int .u64 u1, .int .u64 l0, .int .u64 l1] 43)) (w.heap.size + 1 + 1) 33 #[.int .u64 a0, .int .u64 a1, .int .u64 b0, .int .u64 b1] := HL.out.alloc (.cells #[.int .u64 t0, .int .u64 t1, .int .u64 u0, .int .u64 u1, .int .u64 l0, .int .u64 l1] 43)
            have GW : Blk (v3.alloc (.cells #[.int .u64 t0, .int .u64 t1, .int .u64 u0, .int .u64 u1, .int .u64 l0, .int .u64 l1] 43)) (v3.heap.size) 43 #[.int .u64 t0, .int .u64 t1, .int .u64 u0, .int .u64 u1, .int .u64 l0, .int .u64 l1] := Blk.new v3 _ _
            have GE : Below w.heap.size w (v3.alloc (.cells #[.int .u64 t0, .int .u64 t1, .int .u64 u0, .int .u64 u1, .int .u64 l0, .int .u64 l1] 43)) := EE.out.alloc EE.out.size (.cells #[.int .u64 t0, .int .u64 t1, .int .u64 u0, .int .u64 u1, .int .u64 l0, .int .u64 l1] 43)
            obtain ⟨gw, hgw⟩ : ∃ g, v3.heap.size = g := ⟨_, rfl⟩
            have ne3_0 : gw ≠ w.heap.size := by have := HS.out.lt; omega
            have ne0_3 : w.heap.size ≠ gw := by have := HS.out.lt; omega
            have ne3_1 : gw ≠ w.heap.size + 1 := by have := HC.out.lt; omega
            have ne1_3 : w.heap.size + 1 ≠ gw := by have := HC.out.lt; omega
            have ne3_2 : gw ≠ w.heap.size + 1 + 1 := by have := HL.out.lt; omega
            have ne2_3 : w.heap.size + 1 + 1 ≠ gw := by have := HL.out.lt; omega
            have gegw : w.heap.size ≤ gw := by have := EE.out.size; omega
            rw [hgw] at GW ⊢
            clear hgw
            obtain ⟨v4, hv4⟩ : ∃ V, (v3.alloc (.cells #[.int .u64 t0, .int .u64 t1, .int .u64 u0, .int .u64 u1, .int .u64 l0, .int .u64 l1] 43)) = V := ⟨_, rfl⟩
            rw [hv4] at GS GC GL GW GE ⊢
            have HS := Lib.hid GS
            have HC := Lib.hid GC
            have HL := Lib.hid GL
            have HW := Lib.hid GW
            have EE := Lib.hid GE
            clear hv4 GS GC GL GW GE
            have kS0 : v4.cell? ⟨w.heap.size, 0, none⟩ = some (.int .i64 (s 0)) := HS.out.cell 0
            have kS1 : v4.cell? ⟨w.heap.size, 1, none⟩ = some (.int .i64 (s 1)) := HS.out.cell 1
            have kS2 : v4.cell? ⟨w.heap.size, 2, none⟩ = some (.int .i64 (s 2)) := HS.out.cell 2
            have kS3 : v4.cell? ⟨w.heap.size, 3, none⟩ = some (.int .i64 (s 3)) := HS.out.cell 3
            have kS4 : v4.cell? ⟨w.heap.size, 4, none⟩ = some (.int .i64 (s 4)) := HS.out.cell 4
            have kS5 : v4.cell? ⟨w.heap.size, 5, none⟩ = some (.int .i64 (s 5)) := HS.out.cell 5
            have kS6 : v4.cell? ⟨w.heap.size, 6, none⟩ = some (.int .i64 (s 6)) := HS.out.cell 6
            have kS7 : v4.cell? ⟨w.heap.size, 7, none⟩ = some (.int .i64 (s 7)) := HS.out.cell 7
            have kS8 : v4.cell? ⟨w.heap.size, 8, none⟩ = some (.slice SA sn sc) := HS.out.cell 8
            have kS9 : v4.cell? ⟨w.heap.size, 9, none⟩ = some (.int .i64 (s 9)) := HS.out.cell 9
            have kS10 : v4.cell? ⟨w.heap.size, 10, none⟩ = some (.int .i64 (s 10)) := HS.out.cell 10
            have kS11 : v4.cell? ⟨w.heap.size, 11, none⟩ = some (.int .i64 (s 11)) := HS.out.cell 11
            have kS12 : v4.cell? ⟨w.heap.size, 12, none⟩ = some (.int .i64 (s 12)) := HS.out.cell 12
            have kC0 : v4.cell? ⟨w.heap.size + 1, 0, none⟩ = some (.int .i64 p) := HC.out.cell 0
            have kC1 : v4.cell? ⟨w.heap.size + 1, 1, none⟩ = some (.int .i64 0) := HC.out.cell 1
            have kC2 : v4.cell? ⟨w.heap.size + 1, 2, none⟩ = some (.int .i64 0) := HC.out.cell 2
            have kC3 : v4.cell? ⟨w.heap.size + 1, 3, none⟩ = some (.int .i64 le) := HC.out.cell 3
            have kC4 : v4.cell? ⟨w.heap.size + 1, 4, none⟩ = some (.bool wa) := HC.out.cell 4
            have kC5 : v4.cell? ⟨w.heap.size + 1, 5, none⟩ = some (.slice A n c) := HC.out.cell 5
            have kL0 : v4.cell? ⟨w.heap.size + 1 + 1, 0, none⟩ = some (.int .u64 a0) := HL.out.cell 0
            have kL1 : v4.cell? ⟨w.heap.size + 1 + 1, 1, none⟩ = some (.int .u64 a1) := HL.out.cell 1
            have kL2 : v4.cell? ⟨w.heap.size + 1 + 1, 2, none⟩ = some (.int .u64 b0) := HL.out.cell 2
            have kL3 : v4.cell? ⟨w.heap.size + 1 + 1, 3, none⟩ = some (.int .u64 b1) := HL.out.cell 3
            have kW0 : v4.cell? ⟨gw, 0, none⟩ = some (.int .u64 t0) := HW.out.cell 0
            have kW1 : v4.cell? ⟨gw, 1, none⟩ = some (.int .u64 t1) := HW.out.cell 1
            have kW2 : v4.cell? ⟨gw, 2, none⟩ = some (.int .u64 u0) := HW.out.cell 2
            have kW3 : v4.cell? ⟨gw, 3, none⟩ = some (.int .u64 u1) := HW.out.cell 3
            have kW4 : v4.cell? ⟨gw, 4, none⟩ = some (.int .u64 l0) := HW.out.cell 4
            have kW5 : v4.cell? ⟨gw, 5, none⟩ = some (.int .u64 l1) := HW.out.cell 5
            refine (STh.out _ (HRd.out.kept EE.out)).mono ?_
            rintro e v5 ⟨rfl, hb⟩
            clear kS0 kS1 kS2 kS3 kS4 kS5 kS6 kS7 kS8 kS9 kS10 kS11 kS12 kC0 kC1 kC2 kC3 kC4 kC5 kL0 kL1 kL2 kL3 kW0 kW1 kW2 kW3 kW4 kW5
            have HS := Lib.hid (Blk.next (w := v4) HS.out hb)
            have HC := Lib.hid (Blk.next (w := v4) HC.out hb)
            have HL := Lib.hid (Blk.next (w := v4) HL.out hb)
            have HW := Lib.hid (Blk.next (w := v4) HW.out hb)
            have EE := Lib.hid (EE.out.trans (hb.mono EE.out.size))
            clear hb
            have kS0 : v5.cell? ⟨w.heap.size, 0, none⟩ = some (.int .i64 (s 0)) := HS.out.cell 0
            have kS1 : v5.cell? ⟨w.heap.size, 1, none⟩ = some (.int .i64 (s 1)) := HS.out.cell 1
            have kS2 : v5.cell? ⟨w.heap.size, 2, none⟩ = some (.int .i64 (s 2)) := HS.out.cell 2
            have kS3 : v5.cell? ⟨w.heap.size, 3, none⟩ = some (.int .i64 (s 3)) := HS.out.cell 3
            have kS4 : v5.cell? ⟨w.heap.size, 4, none⟩ = some (.int .i64 (s 4)) := HS.out.cell 4
            have kS5 : v5.cell? ⟨w.heap.size, 5, none⟩ = some (.int .i64 (s 5)) := HS.out.cell 5
            have kS6 : v5.cell? ⟨w.heap.size, 6, none⟩ = some (.int .i64 (s 6)) := HS.out.cell 6
            have kS7 : v5.cell? ⟨w.heap.size, 7, none⟩ = some (.int .i64 (s 7)) := HS.out.cell 7
            have kS8 : v5.cell? ⟨w.heap.size, 8, none⟩ = some (.slice SA sn sc) := HS.out.cell 8
            have kS9 : v5.cell? ⟨w.heap.size, 9, none⟩ = some (.int .i64 (s 9)) := HS.out.cell 9
            have kS10 : v5.cell? ⟨w.heap.size, 10, none⟩ = some (.int .i64 (s 10)) := HS.out.cell 10
            have kS11 : v5.cell? ⟨w.heap.size, 11, none⟩ = some (.int .i64 (s 11)) := HS.out.cell 11
            have kS12 : v5.cell? ⟨w.heap.size, 12, none⟩ = some (.int .i64 (s 12)) := HS.out.cell 12
            have kC0 : v5.cell? ⟨w.heap.size + 1, 0, none⟩ = some (.int .i64 p) := HC.out.cell 0
            have kC1 : v5.cell? ⟨w.heap.size + 1, 1, none⟩ = some (.int .i64 0) := HC.out.cell 1
            have kC2 : v5.cell? ⟨w.heap.size + 1, 2, none⟩ = some (.int .i64 0) := HC.out.cell 2
            have kC3 : v5.cell? ⟨w.heap.size + 1, 3, none⟩ = some (.int .i64 le) := HC.out.cell 3
            have kC4 : v5.cell? ⟨w.heap.size + 1, 4, none⟩ = some (.bool wa) := HC.out.cell 4
            have kC5 : v5.cell? ⟨w.heap.size + 1, 5, none⟩ = some (.slice A n c) := HC.out.cell 5
            have kL0 : v5.cell? ⟨w.heap.size + 1 + 1, 0, none⟩ = some (.int .u64 a0) := HL.out.cell 0
            have kL1 : v5.cell? ⟨w.heap.size + 1 + 1, 1, none⟩ = some (.int .u64 a1) := HL.out.cell 1
            have kL2 : v5.cell? ⟨w.heap.size + 1 + 1, 2, none⟩ = some (.int .u64 b0) := HL.out.cell 2
            have kL3 : v5.cell? ⟨w.heap.size + 1 + 1, 3, none⟩ = some (.int .u64 b1) := HL.out.cell 3
            have kW0 : v5.cell? ⟨gw, 0, none⟩ = some (.int .u64 t0) := HW.out.cell 0
            have kW1 : v5.cell? ⟨gw, 1, none⟩ = some (.int .u64 t1) := HW.out.cell 1
            have kW2 : v5.cell? ⟨gw, 2, none⟩ = some (.int .u64 u0) := HW.out.cell 2
            have kW3 : v5.cell? ⟨gw, 3, none⟩ = some (.int .u64 u1) := HW.out.cell 3
            have kW4 : v5.cell? ⟨gw, 4, none⟩ = some (.int .u64 l0) := HW.out.cell 4
            have kW5 : v5.cell? ⟨gw, 5, none⟩ = some (.int .u64 l1) := HW.out.cell 5
            go_wp2_with fail
            refine (WYh.out _).mono ?_
            rintro e v6 ⟨rfl, hb⟩
            clear kS0 kS1 kS2 kS3 kS4 kS5 kS6 kS7 kS8 kS9 kS10 kS11 kS12 kC0 kC1 kC2 kC3 kC4 kC5 kL0 kL1 kL2 kL3 kW0 kW1 kW2 kW3 kW4 kW5
            have HS := Lib.hid (Blk.next (w := v5) HS.out hb)
            have HC := Lib.hid (Blk.next (w := v5) HC.out hb)
            have HL := Lib.hid (Blk.next (w := v5) HL.out hb)
            have HW := Lib.hid (Blk.next (w := v5) HW.out hb)
            have EE := Lib.hid (EE.out.trans (hb.mono EE.out.size))
            clear hb
            have kS0 : v6.cell? ⟨w.heap.size, 0, none⟩ = some (.int .i64 (s 0)) := HS.out.cell 0
            have kS1 : v6.cell? ⟨w.heap.size, 1, none⟩ = some (.int .i64 (s 1)) := HS.out.cell 1
            have kS2 : v6.cell? ⟨w.heap.size, 2, none⟩ = some (.int .i64 (s 2)) := HS.out.cell 2
            have kS3 : v6.cell? ⟨w.heap.size, 3, none⟩ = some (.int .i64 (s 3)) := HS.out.cell 3
            have kS4 : v6.cell? ⟨w.heap.size, 4, none⟩ = some (.int .i64 (s 4)) := HS.out.cell 4
            have kS5 : v6.cell? ⟨w.heap.size, 5, none⟩ = some (.int .i64 (s 5)) := HS.out.cell 5
            have kS6 : v6.cell? ⟨w.heap.size, 6, none⟩ = some (.int .i64 (s 6)) := HS.out.cell 6
            have kS7 : v6.cell? ⟨w.heap.size, 7, none⟩ = some (.int .i64 (s 7)) := HS.out.cell 7
            have kS8 : v6.cell? ⟨w.heap.size, 8, none⟩ = some (.slice SA sn sc) := HS.out.cell 8
            have kS9 : v6.cell? ⟨w.heap.size, 9, none⟩ = some (.int .i64 (s 9)) := HS.out.cell 9
            have kS10 : v6.cell? ⟨w.heap.size, 10, none⟩ = some (.int .i64 (s 10)) := HS.out.cell 10
            have kS11 : v6.cell? ⟨w.heap.size, 11, none⟩ = some (.int .i64 (s 11)) := HS.out.cell 11
            have kS12 : v6.cell? ⟨w.heap.size, 12, none⟩ = some (.int .i64 (s 12)) := HS.out.cell 12
            have kC0 : v6.cell? ⟨w.heap.size + 1, 0, none⟩ = some (.int .i64 p) := HC.out.cell 0
            have kC1 : v6.cell? ⟨w.heap.size + 1, 1, none⟩ = some (.int .i64 0) := HC.out.cell 1
            have kC2 : v6.cell? ⟨w.heap.size + 1, 2, none⟩ = some (.int .i64 0) := HC.out.cell 2
            have kC3 : v6.cell? ⟨w.heap.size + 1, 3, none⟩ = some (.int .i64 le) := HC.out.cell 3
            have kC4 : v6.cell? ⟨w.heap.size + 1, 4, none⟩ = some (.bool wa) := HC.out.cell 4
            have kC5 : v6.cell? ⟨w.heap.size + 1, 5, none⟩ = some (.slice A n c) := HC.out.cell 5
            have kL0 : v6.cell? ⟨w.heap.size + 1 + 1, 0, none⟩ = some (.int .u64 a0) := HL.out.cell 0
            have kL1 : v6.cell? ⟨w.heap.size + 1 + 1, 1, none⟩ = some (.int .u64 a1) := HL.out.cell 1
            have kL2 : v6.cell? ⟨w.heap.size + 1 + 1, 2, none⟩ = some (.int .u64 b0) := HL.out.cell 2
            have kL3 : v6.cell? ⟨w.heap.size + 1 + 1, 3, none⟩ = some (.int .u64 b1) := HL.out.cell 3
            have kW0 : v6.cell? ⟨gw, 0, none⟩ = some (.int .u64 t0) := HW.out.cell 0
            have kW1 : v6.cell? ⟨gw, 1, none⟩ = some (.int .u64 t1) := HW.out.cell 1
            have kW2 : v6.cell? ⟨gw, 2, none⟩ = some (.int .u64 u0) := HW.out.cell 2
            have kW3 : v6.cell? ⟨gw, 3, none⟩ = some (.int .u64 u1) := HW.out.cell 3
            have kW4 : v6.cell? ⟨gw, 4, none⟩ = some (.int .u64 l0) := HW.out.cell 4
            have kW5 : v6.cell? ⟨gw, 5, none⟩ = some (.int .u64 l1) := HW.out.cell 5
            go_wp2_with fail
            refine (qalive _).mono ?_
            rintro e v7 ⟨rfl, hb⟩
            clear kS0 kS1 kS2 kS3 kS4 kS5 kS6 kS7 kS8 kS9 kS10 kS11 kS12 kC0 kC1 kC2 kC3 kC4 kC5 kL0 kL1 kL2 kL3 kW0 kW1 kW2 kW3 kW4 kW5
            have HS := Lib.hid (Blk.next (w := v6) HS.out hb)
            have HC := Lib.hid (Blk.next (w := v6) HC.out hb)
            have HL := Lib.hid (Blk.next (w := v6) HL.out hb)
            have HW := Lib.hid (Blk.next (w := v6) HW.out hb)
            have EE := Lib.hid (EE.out.trans (hb.mono EE.out.size))
            clear hb
            have kS0 : v7.cell? ⟨w.heap.size, 0, none⟩ = some (.int .i64 (s 0)) := HS.out.cell 0
            have kS1 : v7.cell? ⟨w.heap.size, 1, none⟩ = some (.int .i64 (s 1)) := HS.out.cell 1
            have kS2 : v7.cell? ⟨w.heap.size, 2, none⟩ = some (.int .i64 (s 2)) := HS.out.cell 2
            have kS3 : v7.cell? ⟨w.heap.size, 3, none⟩ = some (.int .i64 (s 3)) := HS.out.cell 3
            have kS4 : v7.cell? ⟨w.heap.size, 4, none⟩ = some (.int .i64 (s 4)) := HS.out.cell 4
            have kS5 : v7.cell? ⟨w.heap.size, 5, none⟩ = some (.int .i64 (s 5)) := HS.out.cell 5
            have kS6 : v7.cell? ⟨w.heap.size, 6, none⟩ = some (.int .i64 (s 6)) := HS.out.cell 6
            have kS7 : v7.cell? ⟨w.heap.size, 7, none⟩ = some (.int .i64 (s 7)) := HS.out.cell 7
            have kS8 : v7.cell? ⟨w.heap.size, 8, none⟩ = some (.slice SA sn sc) := HS.out.cell 8
            have kS9 : v7.cell? ⟨w.heap.size, 9, none⟩ = some (.int .i64 (s 9)) := HS.out.cell 9
            have kS10 : v7.cell? ⟨w.heap.size, 10, none⟩ = some (.int .i64 (s 10)) := HS.out.cell 10
            have kS11 : v7.cell? ⟨w.heap.size, 11, none⟩ = some (.int .i64 (s 11)) := HS.out.cell 11
            have kS12 : v7.cell? ⟨w.heap.size, 12, none⟩ = some (.int .i64 (s 12)) := HS.out.cell 12
            have kC0 : v7.cell? ⟨w.heap.size + 1, 0, none⟩ = some (.int .i64 p) := HC.out.cell 0
            have kC1 : v7.cell? ⟨w.heap.size + 1, 1, none⟩ = some (.int .i64 0) := HC.out.cell 1
            have kC2 : v7.cell? ⟨w.heap.size + 1, 2, none⟩ = some (.int .i64 0) := HC.out.cell 2
            have kC3 : v7.cell? ⟨w.heap.size + 1, 3, none⟩ = some (.int .i64 le) := HC.out.cell 3
            have kC4 : v7.cell? ⟨w.heap.size + 1, 4, none⟩ = some (.bool wa) := HC.out.cell 4
            have kC5 : v7.cell? ⟨w.heap.size + 1, 5, none⟩ = some (.slice A n c) := HC.out.cell 5
            have kL0 : v7.cell? ⟨w.heap.size + 1 + 1, 0, none⟩ = some (.int .u64 a0) := HL.out.cell 0
            have kL1 : v7.cell? ⟨w.heap.size + 1 + 1, 1, none⟩ = some (.int .u64 a1) := HL.out.cell 1
            have kL2 : v7.cell? ⟨w.heap.size + 1 + 1, 2, none⟩ = some (.int .u64 b0) := HL.out.cell 2
            have kL3 : v7.cell? ⟨w.heap.size + 1 + 1, 3, none⟩ = some (.int .u64 b1) := HL.out.cell 3
            have kW0 : v7.cell? ⟨gw, 0, none⟩ = some (.int .u64 t0) := HW.out.cell 0
            have kW1 : v7.cell? ⟨gw, 1, none⟩ = some (.int .u64 t1) := HW.out.cell 1
            have kW2 : v7.cell? ⟨gw, 2, none⟩ = some (.int .u64 u0) := HW.out.cell 2
            have kW3 : v7.cell? ⟨gw, 3, none⟩ = some (.int .u64 u1) := HW.out.cell 3
            have kW4 : v7.cell? ⟨gw, 4, none⟩ = some (.int .u64 l0) := HW.out.cell 4
            have kW5 : v7.cell? ⟨gw, 5, none⟩ = some (.int .u64 l1) := HW.out.cell 5
            go_wp2_with fail
            go_ret
            exact ⟨by first | rfl | (simp; done), EE.out⟩
          · have hob : (o == 0) = false := by rw [beq_eq_false_iff_ne]; exact h8
            rw [hob] at MB
            simp only [Bool.not_false, Bool.and_false, Bool.false_eq_true, if_false] at MB
            go_wp2_with fail
            refine (MB.out _ (HRd.out.kept EE.out)).mono ?_
            rintro e v2 ⟨rfl, hb⟩
            clear kS0 kS1 kS2 kS3 kS4 kS5 kS6 kS7 kS8 kS9 kS10 kS11 kS12 kC0 kC1 kC2 kC3 kC4 kC5 kL0 kL1 kL2 kL3
            have HS := Lib.hid (Blk.next (w := v1) HS.out hb)
            have HC := Lib.hid (Blk.next (w := v1) HC.out hb)
            have HL := Lib.hid (Blk.next (w := v1) HL.out hb)
            have EE := Lib.hid (EE.out.trans (hb.mono EE.out.size))
            clear hb
            have kS0 : v2.cell? ⟨w.heap.size, 0, none⟩ = some (.int .i64 (s 0)) := HS.out.cell 0
            have kS1 : v2.cell? ⟨w.heap.size, 1, none⟩ = some (.int .i64 (s 1)) := HS.out.cell 1
            have kS2 : v2.cell? ⟨w.heap.size, 2, none⟩ = some (.int .i64 (s 2)) := HS.out.cell 2
            have kS3 : v2.cell? ⟨w.heap.size, 3, none⟩ = some (.int .i64 (s 3)) := HS.out.cell 3
            have kS4 : v2.cell? ⟨w.heap.size, 4, none⟩ = some (.int .i64 (s 4)) := HS.out.cell 4
            have kS5 : v2.cell? ⟨w.heap.size, 5, none⟩ = some (.int .i64 (s 5)) := HS.out.cell 5
            have kS6 : v2.cell? ⟨w.heap.size, 6, none⟩ = some (.int .i64 (s 6)) := HS.out.cell 6
            have kS7 : v2.cell? ⟨w.heap.size, 7, none⟩ = some (.int .i64 (s 7)) := HS.out.cell 7
            have kS8 : v2.cell? ⟨w.heap.size, 8, none⟩ = some (.slice SA sn sc) := HS.out.cell 8
            have kS9 : v2.cell? ⟨w.heap.size, 9, none⟩ = some (.int .i64 (s 9)) := HS.out.cell 9
            have kS10 : v2.cell? ⟨w.heap.size, 10, none⟩ = some (.int .i64 (s 10)) := HS.out.cell 10
            have kS11 : v2.cell? ⟨w.heap.size, 11, none⟩ = some (.int .i64 (s 11)) := HS.out.cell 11
            have kS12 : v2.cell? ⟨w.heap.size, 12, none⟩ = some (.int .i64 (s 12)) := HS.out.cell 12
            have kC0 : v2.cell? ⟨w.heap.size + 1, 0, none⟩ = some (.int .i64 p) := HC.out.cell 0
            have kC1 : v2.cell? ⟨w.heap.size + 1, 1, none⟩ = some (.int .i64 0) := HC.out.cell 1
            have kC2 : v2.cell? ⟨w.heap.size + 1, 2, none⟩ = some (.int .i64 0) := HC.out.cell 2
            have kC3 : v2.cell? ⟨w.heap.size + 1, 3, none⟩ = some (.int .i64 le) := HC.out.cell 3
            have kC4 : v2.cell? ⟨w.heap.size + 1, 4, none⟩ = some (.bool wa) := HC.out.cell 4
            have kC5 : v2.cell? ⟨w.heap.size + 1, 5, none⟩ = some (.slice A n c) := HC.out.cell 5
            have kL0 : v2.cell? ⟨w.heap.size + 1 + 1, 0, none⟩ = some (.int .u64 a0) := HL.out.cell 0
            have kL1 : v2.cell? ⟨w.heap.size + 1 + 1, 1, none⟩ = some (.int .u64 a1) := HL.out.cell 1
            have kL2 : v2.cell? ⟨w.heap.size + 1 + 1, 2, none⟩ = some (.int .u64 b0) := HL.out.cell 2
            have kL3 : v2.cell? ⟨w.heap.size + 1 + 1, 3, none⟩ = some (.int .u64 b1) := HL.out.cell 3
            go_wp2_with fail
            refine (SEh.out _ (HRd.out.kept EE.out)).mono ?_
            rintro e v3 ⟨rfl, hb⟩
            clear kS0 kS1 kS2 kS3 kS4 kS5 kS6 kS7 kS8 kS9 kS10 kS11 kS12 kC0 kC1 kC2 kC3 kC4 kC5 kL0 kL1 kL2 kL3
            have HS := Lib.hid (Blk.next (w := v2) HS.out hb)
            have HC := Lib.hid (Blk.next (w := v2) HC.out hb)
            have HL := Lib.hid (Blk.next (w := v2) HL.out hb)
            have EE := Lib.hid (EE.out.trans (hb.mono EE.out.size))
            clear hb
            have kS0 : v3.cell? ⟨w.heap.size, 0, none⟩ = some (.int .i64 (s 0)) := HS.out.cell 0
            have kS1 : v3.cell? ⟨w.heap.size, 1, none⟩ = some (.int .i64 (s 1)) := HS.out.cell 1
            have kS2 : v3.cell? ⟨w.heap.size, 2, none⟩ = some (.int .i64 (s 2)) := HS.out.cell 2
            have kS3 : v3.cell? ⟨w.heap.size, 3, none⟩ = some (.int .i64 (s 3)) := HS.out.cell 3
            have kS4 : v3.cell? ⟨w.heap.size, 4, none⟩ = some (.int .i64 (s 4)) := HS.out.cell 4
            have kS5 : v3.cell? ⟨w.heap.size, 5, none⟩ = some (.int .i64 (s 5)) := HS.out.cell 5
            have kS6 : v3.cell? ⟨w.heap.size, 6, none⟩ = some (.int .i64 (s 6)) := HS.out.cell 6
            have kS7 : v3.cell? ⟨w.heap.size, 7, none⟩ = some (.int .i64 (s 7)) := HS.out.cell 7
            have kS8 : v3.cell? ⟨w.heap.size, 8, none⟩ = some (.slice SA sn sc) := HS.out.cell 8
            have kS9 : v3.cell? ⟨w.heap.size, 9, none⟩ = some (.int .i64 (s 9)) := HS.out.cell 9
            have kS10 : v3.cell? ⟨w.heap.size, 10, none⟩ = some (.int .i64 (s 10)) := HS.out.cell 10
            have kS11 : v3.cell? ⟨w.heap.size, 11, none⟩ = some (.int .i64 (s 11)) := HS.out.cell 11
            have kS12 : v3.cell? ⟨w.heap.size, 12, none⟩ = some (.int .i64 (s 12)) := HS.out.cell 12
            have kC0 : v3.cell? ⟨w.heap.size + 1, 0, none⟩ = some (.int .i64 p) := HC.out.cell 0
            have kC1 : v3.cell? ⟨w.heap.size + 1, 1, none⟩ = some (.int .i64 0) := HC.out.cell 1
            have kC2 : v3.cell? ⟨w.heap.size + 1, 2, none⟩ = some (.int .i64 0) := HC.out.cell 2
            have kC3 : v3.cell? ⟨w.heap.size + 1, 3, none⟩ = some (.int .i64 le) := HC.out.cell 3
            have kC4 : v3.cell? ⟨w.heap.size + 1, 4, none⟩ = some (.bool wa) := HC.out.cell 4
            have kC5 : v3.cell? ⟨w.heap.size + 1, 5, none⟩ = some (.slice A n c) := HC.out.cell 5
            have kL0 : v3.cell? ⟨w.heap.size + 1 + 1, 0, none⟩ = some (.int .u64 a0) := HL.out.cell 0
            have kL1 : v3.cell? ⟨w.heap.size + 1 + 1, 1, none⟩ = some (.int .u64 a1) := HL.out.cell 1
            have kL2 : v3.cell? ⟨w.heap.size + 1 + 1, 2, none⟩ = some (.int .u64 b0) := HL.out.cell 2
            have kL3 : v3.cell? ⟨w.heap.size + 1 + 1, 3, none⟩ = some (.int .u64 b1) := HL.out.cell 3
            have lS := HS.out.lt
            have lC := HC.out.lt
            have lL := HL.out.lt
            go_wp2_with fail
            clear kS0 kS1 kS2 kS3 kS4 kS5 kS6 kS7 kS8 kS9 kS10 kS11 kS12 kC0 kC1 kC2 kC3 kC4 kC5 kL0 kL1 kL2 kL3 lS lC lL
            have GS : Blk (v3.alloc (.cells #[.int .u64 t0, .int .u64 t1, .int .u64 u0, .int .u64 u1, .int .u64 l0, .int .u64 l1] 43)) (w.heap.size) 25 #[.int .i64 (s 0), .int .i64 (s 1), .int .i64 (s 2), .int .i64 (s 3), .int .i64 (s 4), .int .i64 (s 5), .int .i64 (s 6), .int .i64 (s 7), .slice SA sn sc, .int .i64 (s 9), .int .i64 (s 10), .int .i64 (s 11), .int .i64 (s 12)] := HS.out.alloc (.cells #[.int .u64 t0, .int .u64 t1, .int .u64 u0, .int .u64 u1, .int .u64 l0, .int .u64 l1] 43)
            have GC : Blk (v3.alloc (.cells #[.int .u64 t0, .int .u64 t1, .int .u64 u0, .int .u64 u1, .int .u64 l0, .int .u64 l1] 43)) (w.heap.size + 1) 29 #[.int .i64 p, .int .i64 0, .int .i64 0, .int .i64 le, .bool wa, .slice A n c] := HC.out.alloc (.cells #[.int .u64 t0, .int .u64 t1, .int .u64 u0, .int .u64 u1, .int .u64 l0, .int .u64 l1] 43)
            have GL : Blk (v3.alloc (.cells #[.int .u64 t0, .int .u64 t1, .int .u64 u0, .int .u64 u1, .int .u64 l0, .int .u64 l1] 43)) (w.heap.size + 1 + 1) 33 #[.int .u64 a0, .int .u64 a1, .int .u64 b0, .int .u64 b1] := HL.out.alloc (.cells #[.int .u64 t0, .int .u64 t1, .int .u64 u0, .int .u64 u1, .int .u64 l0, .int .u64 l1] 43)
            have GW : Blk (v3.alloc (.cells #[.int .u64 t0, .int .u64 t1, .int .u64 u0, .int .u64 u1, .int .u64 l0, .int .u64 l1] 43)) (v3.heap.size) 43 #[.int .u64 t0, .int .u64 t1, .int .u64 u0, .int .u64 u1, .int .u64 l0, .int .u64 l1] := Blk.new v3 _ _
            have GE : Below w.heap.size w (v3.alloc (.cells #[.int .u64 t0, .int .u64 t1, .int .u64 u0, .int .u64 u1, .int .u64 l0, .int .u64 l1] 43)) := EE.out.alloc EE.out.size (.cells #[.int .u64 t0, .int .u64 t1, .int .u64 u0, .int .u64 u1, .int .u64 l0, .int .u64 l1] 43)
            obtain ⟨gw, hgw⟩ : ∃ g, v3.heap.size = g := ⟨_, rfl⟩
            have ne3_0 : gw ≠ w.heap.size := by have := HS.out.lt; omega
            have ne0_3 : w.heap.size ≠ gw := by have := HS.out.lt; omega
            have ne3_1 : gw ≠ w.heap.size + 1 := by have := HC.out.lt; omega
            have ne1_3 : w.heap.size + 1 ≠ gw := by have := HC.out.lt; omega
            have ne3_2 : gw ≠ w.heap.size + 1 + 1 := by have := HL.out.lt; omega
            have ne2_3 : w.heap.size + 1 + 1 ≠ gw := by have := HL.out.lt; omega
            have gegw : w.heap.size ≤ gw := by have := EE.out.size; omega
            rw [hgw] at GW ⊢
            clear hgw
            obtain ⟨v4, hv4⟩ : ∃ V, (v3.alloc (.cells #[.int .u64 t0, .int .u64 t1, .int .u64 u0, .int .u64 u1, .int .u64 l0, .int .u64 l1] 43)) = V := ⟨_, rfl⟩
            rw [hv4] at GS GC GL GW GE ⊢
            have HS := Lib.hid GS
            have HC := Lib.hid GC
            have HL := Lib.hid GL
            have HW := Lib.hid GW
            have EE := Lib.hid GE
            clear hv4 GS GC GL GW GE
            have kS0 : v4.cell? ⟨w.heap.size, 0, none⟩ = some (.int .i64 (s 0)) := HS.out.cell 0
            have kS1 : v4.cell? ⟨w.heap.size, 1, none⟩ = some (.int .i64 (s 1)) := HS.out.cell 1
            have kS2 : v4.cell? ⟨w.heap.size, 2, none⟩ = some (.int .i64 (s 2)) := HS.out.cell 2
            have kS3 : v4.cell? ⟨w.heap.size, 3, none⟩ = some (.int .i64 (s 3)) := HS.out.cell 3
            have kS4 : v4.cell? ⟨w.heap.size, 4, none⟩ = some (.int .i64 (s 4)) := HS.out.cell 4
            have kS5 : v4.cell? ⟨w.heap.size, 5, none⟩ = some (.int .i64 (s 5)) := HS.out.cell 5
            have kS6 : v4.cell? ⟨w.heap.size, 6, none⟩ = some (.int .i64 (s 6)) := HS.out.cell 6
            have kS7 : v4.cell? ⟨w.heap.size, 7, none⟩ = some (.int .i64 (s 7)) := HS.out.cell 7
            have kS8 : v4.cell? ⟨w.heap.size, 8, none⟩ = some (.slice SA sn sc) := HS.out.cell 8
            have kS9 : v4.cell? ⟨w.heap.size, 9, none⟩ = some (.int .i64 (s 9)) := HS.out.cell 9
            have kS10 : v4.cell? ⟨w.heap.size, 10, none⟩ = some (.int .i64 (s 10)) := HS.out.cell 10
            have kS11 : v4.cell? ⟨w.heap.size, 11, none⟩ = some (.int .i64 (s 11)) := HS.out.cell 11
            have kS12 : v4.cell? ⟨w.heap.size, 12, none⟩ = some (.int .i64 (s 12)) := HS.out.cell 12
            have kC0 : v4.cell? ⟨w.heap.size + 1, 0, none⟩ = some (.int .i64 p) := HC.out.cell 0
            have kC1 : v4.cell? ⟨w.heap.size + 1, 1, none⟩ = some (.int .i64 0) := HC.out.cell 1
            have kC2 : v4.cell? ⟨w.heap.size + 1, 2, none⟩ = some (.int .i64 0) := HC.out.cell 2
            have kC3 : v4.cell? ⟨w.heap.size + 1, 3, none⟩ = some (.int .i64 le) := HC.out.cell 3
            have kC4 : v4.cell? ⟨w.heap.size + 1, 4, none⟩ = some (.bool wa) := HC.out.cell 4
            have kC5 : v4.cell? ⟨w.heap.size + 1, 5, none⟩ = some (.slice A n c) := HC.out.cell 5
            have kL0 : v4.cell? ⟨w.heap.size + 1 + 1, 0, none⟩ = some (.int .u64 a0) := HL.out.cell 0
            have kL1 : v4.cell? ⟨w.heap.size + 1 + 1, 1, none⟩ = some (.int .u64 a1) := HL.out.cell 1
            have kL2 : v4.cell? ⟨w.heap.size + 1 + 1, 2, none⟩ = some (.int .u64 b0) := HL.out.cell 2
            have kL3 : v4.cell? ⟨w.heap.size + 1 + 1, 3, none⟩ = some (.int .u64 b1) := HL.out.cell 3
            have kW0 : v4.cell? ⟨gw, 0, none⟩ = some (.int .u64 t0) := HW.out.cell 0
            have kW1 : v4.cell? ⟨gw, 1, none⟩ = some (.int .u64 t1) := HW.out.cell 1
            have kW2 : v4.cell? ⟨gw, 2, none⟩ = some (.int .u64 u0) := HW.out.cell 2
            have kW3 : v4.cell? ⟨gw, 3, none⟩ = some (.int .u64 u1) := HW.out.cell 3
            have kW4 : v4.cell? ⟨gw, 4, none⟩ = some (.int .u64 l0) := HW.out.cell 4
            have kW5 : v4.cell? ⟨gw, 5, none⟩ = some (.int .u64 l1) := HW.out.cell 5
            refine (STh.out _ (HRd.out.kept EE.out)).mono ?_
            rintro e v5 ⟨rfl, hb⟩
            clear kS0 kS1 kS2 kS3 kS4 kS5 kS6 kS7 kS8 kS9 kS10 kS11 kS12 kC0 kC1 kC2 kC3 kC4 kC5 kL0 kL1 kL2 kL3 kW0 kW1 kW2 kW3 kW4 kW5
            have HS := Lib.hid (Blk.next (w := v4) HS.out hb)
            have HC := Lib.hid (Blk.next (w := v4) HC.out hb)
            have HL := Lib.hid (Blk.next (w := v4) HL.out hb)
            have HW := Lib.hid (Blk.next (w := v4) HW.out hb)
            have EE := Lib.hid (EE.out.trans (hb.mono EE.out.size))
            clear hb
            have kS0 : v5.cell? ⟨w.heap.size, 0, none⟩ = some (.int .i64 (s 0)) := HS.out.cell 0
            have kS1 : v5.cell? ⟨w.heap.size, 1, none⟩ = some (.int .i64 (s 1)) := HS.out.cell 1
            have kS2 : v5.cell? ⟨w.heap.size, 2, none⟩ = some (.int .i64 (s 2)) := HS.out.cell 2
            have kS3 : v5.cell? ⟨w.heap.size, 3, none⟩ = some (.int .i64 (s 3)) := HS.out.cell 3
            have kS4 : v5.cell? ⟨w.heap.size, 4, none⟩ = some (.int .i64 (s 4)) := HS.out.cell 4
            have kS5 : v5.cell? ⟨w.heap.size, 5, none⟩ = some (.int .i64 (s 5)) := HS.out.cell 5
            have kS6 : v5.cell? ⟨w.heap.size, 6, none⟩ = some (.int .i64 (s 6)) := HS.out.cell 6
            have kS7 : v5.cell? ⟨w.heap.size, 7, none⟩ = some (.int .i64 (s 7)) := HS.out.cell 7
            have kS8 : v5.cell? ⟨w.heap.size, 8, none⟩ = some (.slice SA sn sc) := HS.out.cell 8
            have kS9 : v5.cell? ⟨w.heap.size, 9, none⟩ = some (.int .i64 (s 9)) := HS.out.cell 9
            have kS10 : v5.cell? ⟨w.heap.size, 10, none⟩ = some (.int .i64 (s 10)) := HS.out.cell 10
            have kS11 : v5.cell? ⟨w.heap.size, 11, none⟩ = some (.int .i64 (s 11)) := HS.out.cell 11
            have kS12 : v5.cell? ⟨w.heap.size, 12, none⟩ = some (.int .i64 (s 12)) := HS.out.cell 12
            have kC0 : v5.cell? ⟨w.heap.size + 1, 0, none⟩ = some (.int .i64 p) := HC.out.cell 0
            have kC1 : v5.cell? ⟨w.heap.size + 1, 1, none⟩ = some (.int .i64 0) := HC.out.cell 1
            have kC2 : v5.cell? ⟨w.heap.size + 1, 2, none⟩ = some (.int .i64 0) := HC.out.cell 2
            have kC3 : v5.cell? ⟨w.heap.size + 1, 3, none⟩ = some (.int .i64 le) := HC.out.cell 3
            have kC4 : v5.cell? ⟨w.heap.size + 1, 4, none⟩ = some (.bool wa) := HC.out.cell 4
            have kC5 : v5.cell? ⟨w.heap.size + 1, 5, none⟩ = some (.slice A n c) := HC.out.cell 5
            have kL0 : v5.cell? ⟨w.heap.size + 1 + 1, 0, none⟩ = some (.int .u64 a0) := HL.out.cell 0
            have kL1 : v5.cell? ⟨w.heap.size + 1 + 1, 1, none⟩ = some (.int .u64 a1) := HL.out.cell 1
            have kL2 : v5.cell? ⟨w.heap.size + 1 + 1, 2, none⟩ = some (.int .u64 b0) := HL.out.cell 2
            have kL3 : v5.cell? ⟨w.heap.size + 1 + 1, 3, none⟩ = some (.int .u64 b1) := HL.out.cell 3
            have kW0 : v5.cell? ⟨gw, 0, none⟩ = some (.int .u64 t0) := HW.out.cell 0
            have kW1 : v5.cell? ⟨gw, 1, none⟩ = some (.int .u64 t1) := HW.out.cell 1
            have kW2 : v5.cell? ⟨gw, 2, none⟩ = some (.int .u64 u0) := HW.out.cell 2
            have kW3 : v5.cell? ⟨gw, 3, none⟩ = some (.int .u64 u1) := HW.out.cell 3
            have kW4 : v5.cell? ⟨gw, 4, none⟩ = some (.int .u64 l0) := HW.out.cell 4
            have kW5 : v5.cell? ⟨gw, 5, none⟩ = some (.int .u64 l1) := HW.out.cell 5
            go_wp2_with fail
            refine (WYh.out _).mono ?_
            rintro e v6 ⟨rfl, hb⟩
            clear kS0 kS1 kS2 kS3 kS4 kS5 kS6 kS7 kS8 kS9 kS10 kS11 kS12 kC0 kC1 kC2 kC3 kC4 kC5 kL0 kL1 kL2 kL3 kW0 kW1 kW2 kW3 kW4 kW5
            have HS := Lib.hid (Blk.next (w := v5) HS.out hb)
            have HC := Lib.hid (Blk.next (w := v5) HC.out hb)
            have HL := Lib.hid (Blk.next (w := v5) HL.out hb)
            have HW := Lib.hid (Blk.next (w := v5) HW.out hb)
            have EE := Lib.hid (EE.out.trans (hb.mono EE.out.size))
            clear hb
            have kS0 : v6.cell? ⟨w.heap.size, 0, none⟩ = some (.int .i64 (s 0)) := HS.out.cell 0
            have kS1 : v6.cell? ⟨w.heap.size, 1, none⟩ = some (.int .i64 (s 1)) := HS.out.cell 1
            have kS2 : v6.cell? ⟨w.heap.size, 2, none⟩ = some (.int .i64 (s 2)) := HS.out.cell 2
            have kS3 : v6.cell? ⟨w.heap.size, 3, none⟩ = some (.int .i64 (s 3)) := HS.out.cell 3
            have kS4 : v6.cell? ⟨w.heap.size, 4, none⟩ = some (.int .i64 (s 4)) := HS.out.cell 4
            have kS5 : v6.cell? ⟨w.heap.size, 5, none⟩ = some (.int .i64 (s 5)) := HS.out.cell 5
            have kS6 : v6.cell? ⟨w.heap.size, 6, none⟩ = some (.int .i64 (s 6)) := HS.out.cell 6
            have kS7 : v6.cell? ⟨w.heap.size, 7, none⟩ = some (.int .i64 (s 7)) := HS.out.cell 7
            have kS8 : v6.cell? ⟨w.heap.size, 8, none⟩ = some (.slice SA sn sc) := HS.out.cell 8
            have kS9 : v6.cell? ⟨w.heap.size, 9, none⟩ = some (.int .i64 (s 9)) := HS.out.cell 9
            have kS10 : v6.cell? ⟨w.heap.size, 10, none⟩ = some (.int .i64 (s 10)) := HS.out.cell 10
            have kS11 : v6.cell? ⟨w.heap.size, 11, none⟩ = some (.int .i64 (s 11)) := HS.out.cell 11
            have kS12 : v6.cell? ⟨w.heap.size, 12, none⟩ = some (.int .i64 (s 12)) := HS.out.cell 12
            have kC0 : v6.cell? ⟨w.heap.size + 1, 0, none⟩ = some (.int .i64 p) := HC.out.cell 0
            have kC1 : v6.cell? ⟨w.heap.size + 1, 1, none⟩ = some (.int .i64 0) := HC.out.cell 1
            have kC2 : v6.cell? ⟨w.heap.size + 1, 2, none⟩ = some (.int .i64 0) := HC.out.cell 2
            have kC3 : v6.cell? ⟨w.heap.size + 1, 3, none⟩ = some (.int .i64 le) := HC.out.cell 3
            have kC4 : v6.cell? ⟨w.heap.size + 1, 4, none⟩ = some (.bool wa) := HC.out.cell 4
            have kC5 : v6.cell? ⟨w.heap.size + 1, 5, none⟩ = some (.slice A n c) := HC.out.cell 5
            have kL0 : v6.cell? ⟨w.heap.size + 1 + 1, 0, none⟩ = some (.int .u64 a0) := HL.out.cell 0
            have kL1 : v6.cell? ⟨w.heap.size + 1 + 1, 1, none⟩ = some (.int .u64 a1) := HL.out.cell 1
            have kL2 : v6.cell? ⟨w.heap.size + 1 + 1, 2, none⟩ = some (.int .u64 b0) := HL.out.cell 2
            have kL3 : v6.cell? ⟨w.heap.size + 1 + 1, 3, none⟩ = some (.int .u64 b1) := HL.out.cell 3
            have kW0 : v6.cell? ⟨gw, 0, none⟩ = some (.int .u64 t0) := HW.out.cell 0
            have kW1 : v6.cell? ⟨gw, 1, none⟩ = some (.int .u64 t1) := HW.out.cell 1
            have kW2 : v6.cell? ⟨gw, 2, none⟩ = some (.int .u64 u0) := HW.out.cell 2
            have kW3 : v6.cell? ⟨gw, 3, none⟩ = some (.int .u64 u1) := HW.out.cell 3
            have kW4 : v6.cell? ⟨gw, 4, none⟩ = some (.int .u64 l0) := HW.out.cell 4
            have kW5 : v6.cell? ⟨gw, 5, none⟩ = some (.int .u64 l1) := HW.out.cell 5
            go_wp2_with fail
            refine (qalive _).mono ?_
            rintro e v7 ⟨rfl, hb⟩
            clear kS0 kS1 kS2 kS3 kS4 kS5 kS6 kS7 kS8 kS9 kS10 kS11 kS12 kC0 kC1 kC2 kC3 kC4 kC5 kL0 kL1 kL2 kL3 kW0 kW1 kW2 kW3 kW4 kW5
            have HS := Lib.hid (Blk.next (w := v6) HS.out hb)
            have HC := Lib.hid (Blk.next (w := v6) HC.out hb)
            have HL := Lib.hid (Blk.next (w := v6) HL.out hb)
            have HW := Lib.hid (Blk.next (w := v6) HW.out hb)
            have EE := Lib.hid (EE.out.trans (hb.mono EE.out.size))
            clear hb
            have kS0 : v7.cell? ⟨w.heap.size, 0, none⟩ = some (.int .i64 (s 0)) := HS.out.cell 0
            have kS1 : v7.cell? ⟨w.heap.size, 1, none⟩ = some (.int .i64 (s 1)) := HS.out.cell 1
            have kS2 : v7.cell? ⟨w.heap.size, 2, none⟩ = some (.int .i64 (s 2)) := HS.out.cell 2
            have kS3 : v7.cell? ⟨w.heap.size, 3, none⟩ = some (.int .i64 (s 3)) := HS.out.cell 3
            have kS4 : v7.cell? ⟨w.heap.size, 4, none⟩ = some (.int .i64 (s 4)) := HS.out.cell 4
            have kS5 : v7.cell? ⟨w.heap.size, 5, none⟩ = some (.int .i64 (s 5)) := HS.out.cell 5
            have kS6 : v7.cell? ⟨w.heap.size, 6, none⟩ = some (.int .i64 (s 6)) := HS.out.cell 6
            have kS7 : v7.cell? ⟨w.heap.size, 7, none⟩ = some (.int .i64 (s 7)) := HS.out.cell 7
            have kS8 : v7.cell? ⟨w.heap.size, 8, none⟩ = some (.slice SA sn sc) := HS.out.cell 8
            have kS9 : v7.cell? ⟨w.heap.size, 9, none⟩ = some (.int .i64 (s 9)) := HS.out.cell 9
            have kS10 : v7.cell? ⟨w.heap.size, 10, none⟩ = some (.int .i64 (s 10)) := HS.out.cell 10
            have kS11 : v7.cell? ⟨w.heap.size, 11, none⟩ = some (.int .i64 (s 11)) := HS.out.cell 11
            have kS12 : v7.cell? ⟨w.heap.size, 12, none⟩ = some (.int .i64 (s 12)) := HS.out.cell 12
            have kC0 : v7.cell? ⟨w.heap.size + 1, 0, none⟩ = some (.int .i64 p) := HC.out.cell 0
            have kC1 : v7.cell? ⟨w.heap.size + 1, 1, none⟩ = some (.int .i64 0) := HC.out.cell 1
            have kC2 : v7.cell? ⟨w.heap.size + 1, 2, none⟩ = some (.int .i64 0) := HC.out.cell 2
            have kC3 : v7.cell? ⟨w.heap.size + 1, 3, none⟩ = some (.int .i64 le) := HC.out.cell 3
            have kC4 : v7.cell? ⟨w.heap.size + 1, 4, none⟩ = some (.bool wa) := HC.out.cell 4
            have kC5 : v7.cell? ⟨w.heap.size + 1, 5, none⟩ = some (.slice A n c) := HC.out.cell 5
            have kL0 : v7.cell? ⟨w.heap.size + 1 + 1, 0, none⟩ = some (.int .u64 a0) := HL.out.cell 0
            have kL1 : v7.cell? ⟨w.heap.size + 1 + 1, 1, none⟩ = some (.int .u64 a1) := HL.out.cell 1
            have kL2 : v7.cell? ⟨w.heap.size + 1 + 1, 2, none⟩ = some (.int .u64 b0) := HL.out.cell 2
            have kL3 : v7.cell? ⟨w.heap.size + 1 + 1, 3, none⟩ = some (.int .u64 b1) := HL.out.cell 3
            have kW0 : v7.cell? ⟨gw, 0, none⟩ = some (.int .u64 t0) := HW.out.cell 0
            have kW1 : v7.cell? ⟨gw, 1, none⟩ = some (.int .u64 t1) := HW.out.cell 1
            have kW2 : v7.cell? ⟨gw, 2, none⟩ = some (.int .u64 u0) := HW.out.cell 2
            have kW3 : v7.cell? ⟨gw, 3, none⟩ = some (.int .u64 u1) := HW.out.cell 3
            have kW4 : v7.cell? ⟨gw, 4, none⟩ = some (.int .u64 l0) := HW.out.cell 4
            have kW5 : v7.cell? ⟨gw, 5, none⟩ = some (.int .u64 l1) := HW.out.cell 5
            go_wp2_with fail
            go_ret
            exact ⟨by first | rfl | (simp; done), EE.out⟩
        · simp only [Bool.not_true, Bool.false_and, Bool.false_eq_true, if_false, Bool.not_false] at MB
          go_wp2_with fail
          refine (MB.out _ (HRd.out.kept EE.out)).mono ?_
          rintro e v2 ⟨rfl, hb⟩
          clear kS0 kS1 kS2 kS3 kS4 kS5 kS6 kS7 kS8 kS9 kS10 kS11 kS12 kC0 kC1 kC2 kC3 kC4 kC5 kL0 kL1 kL2 kL3
          have HS := Lib.hid (Blk.next (w := v1) HS.out hb)
          have HC := Lib.hid (Blk.next (w := v1) HC.out hb)
          have HL := Lib.hid (Blk.next (w := v1) HL.out hb)
          have EE := Lib.hid (EE.out.trans (hb.mono EE.out.size))
          clear hb
          have kS0 : v2.cell? ⟨w.heap.size, 0, none⟩ = some (.int .i64 (s 0)) := HS.out.cell 0
          have kS1 : v2.cell? ⟨w.heap.size, 1, none⟩ = some (.int .i64 (s 1)) := HS.out.cell 1
          have kS2 : v2.cell? ⟨w.heap.size, 2, none⟩ = some (.int .i64 (s 2)) := HS.out.cell 2
          have kS3 : v2.cell? ⟨w.heap.size, 3, none⟩ = some (.int .i64 (s 3)) := HS.out.cell 3
          have kS4 : v2.cell? ⟨w.heap.size, 4, none⟩ = some (.int .i64 (s 4)) := HS.out.cell 4
          have kS5 : v2.cell? ⟨w.heap.size, 5, none⟩ = some (.int .i64 (s 5)) := HS.out.cell 5
          have kS6 : v2.cell? ⟨w.heap.size, 6, none⟩ = some (.int .i64 (s 6)) := HS.out.cell 6
          have kS7 : v2.cell? ⟨w.heap.size, 7, none⟩ = some (.int .i64 (s 7)) := HS.out.cell 7
          have kS8 : v2.cell? ⟨w.heap.size, 8, none⟩ = some (.slice SA sn sc) := HS.out.cell 8
          have kS9 : v2.cell? ⟨w.heap.size, 9, none⟩ = some (.int .i64 (s 9)) := HS.out.cell 9
          have kS10 : v2.cell? ⟨w.heap.size, 10, none⟩ = some (.int .i64 (s 10)) := HS.out.cell 10
          have kS11 : v2.cell? ⟨w.heap.size, 11, none⟩ = some (.int .i64 (s 11)) := HS.out.cell 11
          have kS12 : v2.cell? ⟨w.heap.size, 12, none⟩ = some (.int .i64 (s 12)) := HS.out.cell 12
          have kC0 : v2.cell? ⟨w.heap.size + 1, 0, none⟩ = some (.int .i64 p) := HC.out.cell 0
          have kC1 : v2.cell? ⟨w.heap.size + 1, 1, none⟩ = some (.int .i64 0) := HC.out.cell 1
          have kC2 : v2.cell? ⟨w.heap.size + 1, 2, none⟩ = some (.int .i64 0) := HC.out.cell 2
          have kC3 : v2.cell? ⟨w.heap.size + 1, 3, none⟩ = some (.int .i64 le) := HC.out.cell 3
          have kC4 : v2.cell? ⟨w.heap.size + 1, 4, none⟩ = some (.bool wa) := HC.out.cell 4
          have kC5 : v2.cell? ⟨w.heap.size + 1, 5, none⟩ = some (.slice A n c) := HC.out.cell 5
          have kL0 : v2.cell? ⟨w.heap.size + 1 + 1, 0, none⟩ = some (.int .u64 a0) := HL.out.cell 0
          have kL1 : v2.cell? ⟨w.heap.size + 1 + 1, 1, none⟩ = some (.int .u64 a1) := HL.out.cell 1
          have kL2 : v2.cell? ⟨w.heap.size + 1 + 1, 2, none⟩ = some (.int .u64 b0) := HL.out.cell 2
          have kL3 : v2.cell? ⟨w.heap.size + 1 + 1, 3, none⟩ = some (.int .u64 b1) := HL.out.cell 3
          go_wp2_with fail
          refine (SEh.out _ (HRd.out.kept EE.out)).mono ?_
          rintro e v3 ⟨rfl, hb⟩
          clear kS0 kS1 kS2 kS3 kS4 kS5 kS6 kS7 kS8 kS9 kS10 kS11 kS12 kC0 kC1 kC2 kC3 kC4 kC5 kL0 kL1 kL2 kL3
          have HS := Lib.hid (Blk.next (w := v2) HS.out hb)
          have HC := Lib.hid (Blk.next (w := v2) HC.out hb)
          have HL := Lib.hid (Blk.next (w := v2) HL.out hb)
          have EE := Lib.hid (EE.out.trans (hb.mono EE.out.size))
          clear hb
          have kS0 : v3.cell? ⟨w.heap.size, 0, none⟩ = some (.int .i64 (s 0)) := HS.out.cell 0
          have kS1 : v3.cell? ⟨w.heap.size, 1, none⟩ = some (.int .i64 (s 1)) := HS.out.cell 1
          have kS2 : v3.cell? ⟨w.heap.size, 2, none⟩ = some (.int .i64 (s 2)) := HS.out.cell 2
          have kS3 : v3.cell? ⟨w.heap.size, 3, none⟩ = some (.int .i64 (s 3)) := HS.out.cell 3
          have kS4 : v3.cell? ⟨w.heap.size, 4, none⟩ = some (.int .i64 (s 4)) := HS.out.cell 4
          have kS5 : v3.cell? ⟨w.heap.size, 5, none⟩ = some (.int .i64 (s 5)) := HS.out.cell 5
          have kS6 : v3.cell? ⟨w.heap.size, 6, none⟩ = some (.int .i64 (s 6)) := HS.out.cell 6
          have kS7 : v3.cell? ⟨w.heap.size, 7, none⟩ = some (.int .i64 (s 7)) := HS.out.cell 7
          have kS8 : v3.cell? ⟨w.heap.size, 8, none⟩ = some (.slice SA sn sc) := HS.out.cell 8
          have kS9 : v3.cell? ⟨w.heap.size, 9, none⟩ = some (.int .i64 (s 9)) := HS.out.cell 9
          have kS10 : v3.cell? ⟨w.heap.size, 10, none⟩ = some (.int .i64 (s 10)) := HS.out.cell 10
          have kS11 : v3.cell? ⟨w.heap.size, 11, none⟩ = some (.int .i64 (s 11)) := HS.out.cell 11
          have kS12 : v3.cell? ⟨w.heap.size, 12, none⟩ = some (.int .i64 (s 12)) := HS.out.cell 12
          have kC0 : v3.cell? ⟨w.heap.size + 1, 0, none⟩ = some (.int .i64 p) := HC.out.cell 0
          have kC1 : v3.cell? ⟨w.heap.size + 1, 1, none⟩ = some (.int .i64 0) := HC.out.cell 1
          have kC2 : v3.cell? ⟨w.heap.size + 1, 2, none⟩ = some (.int .i64 0) := HC.out.cell 2
          have kC3 : v3.cell? ⟨w.heap.size + 1, 3, none⟩ = some (.int .i64 le) := HC.out.cell 3
          have kC4 : v3.cell? ⟨w.heap.size + 1, 4, none⟩ = some (.bool wa) := HC.out.cell 4
          have kC5 : v3.cell? ⟨w.heap.size + 1, 5, none⟩ = some (.slice A n c) := HC.out.cell 5
          have kL0 : v3.cell? ⟨w.heap.size + 1 + 1, 0, none⟩ = some (.int .u64 a0) := HL.out.cell 0
          have kL1 : v3.cell? ⟨w.heap.size + 1 + 1, 1, none⟩ = some (.int .u64 a1) := HL.out.cell 1
          have kL2 : v3.cell? ⟨w.heap.size + 1 + 1, 2, none⟩ = some (.int .u64 b0) := HL.out.cell 2
          have kL3 : v3.cell? ⟨w.heap.size + 1 + 1, 3, none⟩ = some (.int .u64 b1) := HL.out.cell 3
          have lS := HS.out.lt
          have lC := HC.out.lt
          have lL := HL.out.lt
          go_wp2_with fail
          clear kS0 kS1 kS2 kS3 kS4 kS5 kS6 kS7 kS8 kS9 kS10 kS11 kS12 kC0 kC1 kC2 kC3 kC4 kC5 kL0 kL1 kL2 kL3 lS lC lL
          have GS : Blk (v3.alloc (.cells #[.int .u64 t0, .int .u64 t1, .int .u64 u0, .int .u64 u1, .int .u64 l0, .int .u64 l1] 43)) (w.heap.size) 25 #[.int .i64 (s 0), .int .i64 (s 1), .int .i64 (s 2), .int .i64 (s 3), .int .i64 (s 4), .int .i64 (s 5), .int .i64 (s 6), .int .i64 (s 7), .slice SA sn sc, .int .i64 (s 9), .int .i64 (s 10), .int .i64 (s 11), .int .i64 (s 12)] := HS.out.alloc (.cells #[.int .u64 t0, .int .u64 t1, .int .u64 u0, .int .u64 u1, .int .u64 l0, .int .u64 l1] 43)
          have GC : Blk (v3.alloc (.cells #[.int .u64 t0, .int .u64 t1, .int .u64 u0, .int .u64 u1, .int .u64 l0, .int .u64 l1] 43)) (w.heap.size + 1) 29 #[.int .i64 p, .int .i64 0, .int .i64 0, .int .i64 le, .bool wa, .slice A n c] := HC.out.alloc (.cells #[.int .u64 t0, .int .u64 t1, .int .u64 u0, .int .u64 u1, .int .u64 l0, .int .u64 l1] 43)
          have GL : Blk (v3.alloc (.cells #[.int .u64 t0, .int .u64 t1, .int .u64 u0, .int .u64 u1, .int .u64 l0, .int .u64 l1] 43)) (w.heap.size + 1 + 1) 33 #[.int .u64 a0, .int .u64 a1, .int .u64 b0, .int .u64 b1] := HL.out.alloc (.cells #[.int .u64 t0, .int .u64 t1, .int .u64 u0, .int .u64 u1, .int .u64 l0, .int .u64 l1] 43)
          have GW : Blk (v3.alloc (.cells #[.int .u64 t0, .int .u64 t1, .int .u64 u0, .int .u64 u1, .int .u64 l0, .int .u64 l1] 43)) (v3.heap.size) 43 #[.int .u64 t0, .int .u64 t1, .int .u64 u0, .int .u64 u1, .int .u64 l0, .int .u64 l1] := Blk.new v3 _ _
          have GE : Below w.heap.size w (v3.alloc (.cells #[.int .u64 t0, .int .u64 t1, .int .u64 u0, .int .u64 u1, .int .u64 l0, .int .u64 l1] 43)) := EE.out.alloc EE.out.size (.cells #[.int .u64 t0, .int .u64 t1, .int .u64 u0, .int .u64 u1, .int .u64 l0, .int .u64 l1] 43)
          obtain ⟨gw, hgw⟩ : ∃ g, v3.heap.size = g := ⟨_, rfl⟩
          have ne3_0 : gw ≠ w.heap.size := by have := HS.out.lt; omega
          have ne0_3 : w.heap.size ≠ gw := by have := HS.out.lt; omega
          have ne3_1 : gw ≠ w.heap.size + 1 := by have := HC.out.lt; omega
          have ne1_3 : w.heap.size + 1 ≠ gw := by have := HC.out.lt; omega
          have ne3_2 : gw ≠ w.heap.size + 1 + 1 := by have := HL.out.lt; omega
          have ne2_3 : w.heap.size + 1 + 1 ≠ gw := by have := HL.out.lt; omega
          have gegw : w.heap.size ≤ gw := by have := EE.out.size; omega
          rw [hgw] at GW ⊢
          clear hgw
          obtain ⟨v4, hv4⟩ : ∃ V, (v3.alloc (.cells #[.int .u64 t0, .int .u64 t1, .int .u64 u0, .int .u64 u1, .int .u64 l0, .int .u64 l1] 43)) = V := ⟨_, rfl⟩
          rw [hv4] at GS GC GL GW GE ⊢
          have HS := Lib.hid GS
          have HC := Lib.hid GC
          have HL := Lib.hid GL
          have HW := Lib.hid GW
          have EE := Lib.hid GE
          clear hv4 GS GC GL GW GE
          have kS0 : v4.cell? ⟨w.heap.size, 0, none⟩ = some (.int .i64 (s 0)) := HS.out.cell 0
          have kS1 : v4.cell? ⟨w.heap.size, 1, none⟩ = some (.int .i64 (s 1)) := HS.out.cell 1
          have kS2 : v4.cell? ⟨w.heap.size, 2, none⟩ = some (.int .i64 (s 2)) := HS.out.cell 2
          have kS3 : v4.cell? ⟨w.heap.size, 3, none⟩ = some (.int .i64 (s 3)) := HS.out.cell 3
          have kS4 : v4.cell? ⟨w.heap.size, 4, none⟩ = some (.int .i64 (s 4)) := HS.out.cell 4
          have kS5 : v4.cell? ⟨w.heap.size, 5, none⟩ = some (.int .i64 (s 5)) := HS.out.cell 5
          have kS6 : v4.cell? ⟨w.heap.size, 6, none⟩ = some (.int .i64 (s 6)) := HS.out.cell 6
          have kS7 : v4.cell? ⟨w.heap.size, 7, none⟩ = some (.int .i64 (s 7)) := HS.out.cell 7
          have kS8 : v4.cell? ⟨w.heap.size, 8, none⟩ = some (.slice SA sn sc) := HS.out.cell 8
          have kS9 : v4.cell? ⟨w.heap.size, 9, none⟩ = some (.int .i64 (s 9)) := HS.out.cell 9
          have kS10 : v4.cell? ⟨w.heap.size, 10, none⟩ = some (.int .i64 (s 10)) := HS.out.cell 10
          have kS11 : v4.cell? ⟨w.heap.size, 11, none⟩ = some (.int .i64 (s 11)) := HS.out.cell 11
          have kS12 : v4.cell? ⟨w.heap.size, 12, none⟩ = some (.int .i64 (s 12)) := HS.out.cell 12
          have kC0 : v4.cell? ⟨w.heap.size + 1, 0, none⟩ = some (.int .i64 p) := HC.out.cell 0
          have kC1 : v4.cell? ⟨w.heap.size + 1, 1, none⟩ = some (.int .i64 0) := HC.out.cell 1
          have kC2 : v4.cell? ⟨w.heap.size + 1, 2, none⟩ = some (.int .i64 0) := HC.out.cell 2
          have kC3 : v4.cell? ⟨w.heap.size + 1, 3, none⟩ = some (.int .i64 le) := HC.out.cell 3
          have kC4 : v4.cell? ⟨w.heap.size + 1, 4, none⟩ = some (.bool wa) := HC.out.cell 4
          have kC5 : v4.cell? ⟨w.heap.size + 1, 5, none⟩ = some (.slice A n c) := HC.out.cell 5
          have kL0 : v4.cell? ⟨w.heap.size + 1 + 1, 0, none⟩ = some (.int .u64 a0) := HL.out.cell 0
          have kL1 : v4.cell? ⟨w.heap.size + 1 + 1, 1, none⟩ = some (.int .u64 a1) := HL.out.cell 1
          have kL2 : v4.cell? ⟨w.heap.size + 1 + 1, 2, none⟩ = some (.int .u64 b0) := HL.out.cell 2
          have kL3 : v4.cell? ⟨w.heap.size + 1 + 1, 3, none⟩ = some (.int .u64 b1) := HL.out.cell 3
          have kW0 : v4.cell? ⟨gw, 0, none⟩ = some (.int .u64 t0) := HW.out.cell 0
          have kW1 : v4.cell? ⟨gw, 1, none⟩ = some (.int .u64 t1) := HW.out.cell 1
          have kW2 : v4.cell? ⟨gw, 2, none⟩ = some (.int .u64 u0) := HW.out.cell 2
          have kW3 : v4.cell? ⟨gw, 3, none⟩ = some (.int .u64 u1) := HW.out.cell 3
          have kW4 : v4.cell? ⟨gw, 4, none⟩ = some (.int .u64 l0) := HW.out.cell 4
          have kW5 : v4.cell? ⟨gw, 5, none⟩ = some (.int .u64 l1) := HW.out.cell 5
          refine (STh.out _ (HRd.out.kept EE.out)).mono ?_
          rintro e v5 ⟨rfl, hb⟩
          clear kS0 kS1 kS2 kS3 kS4 kS5 kS6 kS7 kS8 kS9 kS10 kS11 kS12 kC0 kC1 kC2 kC3 kC4 kC5 kL0 kL1 kL2 kL3 kW0 kW1 kW2 kW3 kW4 kW5
          have HS := Lib.hid (Blk.next (w := v4) HS.out hb)
          have HC := Lib.hid (Blk.next (w := v4) HC.out hb)
          have HL := Lib.hid (Blk.next (w := v4) HL.out hb)
          have HW := Lib.hid (Blk.next (w := v4) HW.out hb)
          have EE := Lib.hid (EE.out.trans (hb.mono EE.out.size))
          clear hb
          have kS0 : v5.cell? ⟨w.heap.size, 0, none⟩ = some (.int .i64 (s 0)) := HS.out.cell 0
          have kS1 : v5.cell? ⟨w.heap.size, 1, none⟩ = some (.int .i64 (s 1)) := HS.out.cell 1
          have kS2 : v5.cell? ⟨w.heap.size, 2, none⟩ = some (.int .i64 (s 2)) := HS.out.cell 2
          have kS3 : v5.cell? ⟨w.heap.size, 3, none⟩ = some (.int .i64 (s 3)) := HS.out.cell 3
          have kS4 : v5.cell? ⟨w.heap.size, 4, none⟩ = some (.int .i64 (s 4)) := HS.out.cell 4
          have kS5 : v5.cell? ⟨w.heap.size, 5, none⟩ = some (.int .i64 (s 5)) := HS.out.cell 5
          have kS6 : v5.cell? ⟨w.heap.size, 6, none⟩ = some (.int .i64 (s 6)) := HS.out.cell 6
          have kS7 : v5.cell? ⟨w.heap.size, 7, none⟩ = some (.int .i64 (s 7)) := HS.out.cell 7
          have kS8 : v5.cell? ⟨w.heap.size, 8, none⟩ = some (.slice SA sn sc) := HS.out.cell 8
          have kS9 : v5.cell? ⟨w.heap.size, 9, none⟩ = some (.int .i64 (s 9)) := HS.out.cell 9
          have kS10 : v5.cell? ⟨w.heap.size, 10, none⟩ = some (.int .i64 (s 10)) := HS.out.cell 10
          have kS11 : v5.cell? ⟨w.heap.size, 11, none⟩ = some (.int .i64 (s 11)) := HS.out.cell 11
          have kS12 : v5.cell? ⟨w.heap.size, 12, none⟩ = some (.int .i64 (s 12)) := HS.out.cell 12
          have kC0 : v5.cell? ⟨w.heap.size + 1, 0, none⟩ = some (.int .i64 p) := HC.out.cell 0
          have kC1 : v5.cell? ⟨w.heap.size + 1, 1, none⟩ = some (.int .i64 0) := HC.out.cell 1
          have kC2 : v5.cell? ⟨w.heap.size + 1, 2, none⟩ = some (.int .i64 0) := HC.out.cell 2
          have kC3 : v5.cell? ⟨w.heap.size + 1, 3, none⟩ = some (.int .i64 le) := HC.out.cell 3
          have kC4 : v5.cell? ⟨w.heap.size + 1, 4, none⟩ = some (.bool wa) := HC.out.cell 4
          have kC5 : v5.cell? ⟨w.heap.size + 1, 5, none⟩ = some (.slice A n c) := HC.out.cell 5
          have kL0 : v5.cell? ⟨w.heap.size + 1 + 1, 0, none⟩ = some (.int .u64 a0) := HL.out.cell 0
          have kL1 : v5.cell? ⟨w.heap.size + 1 + 1, 1, none⟩ = some (.int .u64 a1) := HL.out.cell 1
          have kL2 : v5.cell? ⟨w.heap.size + 1 + 1, 2, none⟩ = some (.int .u64 b0) := HL.out.cell 2
          have kL3 : v5.cell? ⟨w.heap.size + 1 + 1, 3, none⟩ = some (.int .u64 b1) := HL.out.cell 3
          have kW0 : v5.cell? ⟨gw, 0, none⟩ = some (.int .u64 t0) := HW.out.cell 0
          have kW1 : v5.cell? ⟨gw, 1, none⟩ = some (.int .u64 t1) := HW.out.cell 1
          have kW2 : v5.cell? ⟨gw, 2, none⟩ = some (.int .u64 u0) := HW.out.cell 2
          have kW3 : v5.cell? ⟨gw, 3, none⟩ = some (.int .u64 u1) := HW.out.cell 3
          have kW4 : v5.cell? ⟨gw, 4, none⟩ = some (.int .u64 l0) := HW.out.cell 4
          have kW5 : v5.cell? ⟨gw, 5, none⟩ = some (.int .u64 l1) := HW.out.cell 5
          go_wp2_with fail
          refine (qalive _).mono ?_
          rintro e v6 ⟨rfl, hb⟩
          clear kS0 kS1 kS2 kS3 kS4 kS5 kS6 kS7 kS8 kS9 kS10 kS11 kS12 kC0 kC1 kC2 kC3 kC4 kC5 kL0 kL1 kL2 kL3 kW0 kW1 kW2 kW3 kW4 kW5
          have HS := Lib.hid (Blk.next (w := v5) HS.out hb)
          have HC := Lib.hid (Blk.next (w := v5) HC.out hb)
          have HL := Lib.hid (Blk.next (w := v5) HL.out hb)
          have HW := Lib.hid (Blk.next (w := v5) HW.out hb)
          have EE := Lib.hid (EE.out.trans (hb.mono EE.out.size))
          clear hb
          have kS0 : v6.cell? ⟨w.heap.size, 0, none⟩ = some (.int .i64 (s 0)) := HS.out.cell 0
          have kS1 : v6.cell? ⟨w.heap.size, 1, none⟩ = some (.int .i64 (s 1)) := HS.out.cell 1
          have kS2 : v6.cell? ⟨w.heap.size, 2, none⟩ = some (.int .i64 (s 2)) := HS.out.cell 2
          have kS3 : v6.cell? ⟨w.heap.size, 3, none⟩ = some (.int .i64 (s 3)) := HS.out.cell 3
          have kS4 : v6.cell? ⟨w.heap.size, 4, none⟩ = some (.int .i64 (s 4)) := HS.out.cell 4
          have kS5 : v6.cell? ⟨w.heap.size, 5, none⟩ = some (.int .i64 (s 5)) := HS.out.cell 5
          have kS6 : v6.cell? ⟨w.heap.size, 6, none⟩ = some (.int .i64 (s 6)) := HS.out.cell 6
          have kS7 : v6.cell? ⟨w.heap.size, 7, none⟩ = some (.int .i64 (s 7)) := HS.out.cell 7
          have kS8 : v6.cell? ⟨w.heap.size, 8, none⟩ = some (.slice SA sn sc) := HS.out.cell 8
          have kS9 : v6.cell? ⟨w.heap.size, 9, none⟩ = some (.int .i64 (s 9)) := HS.out.cell 9
          have kS10 : v6.cell? ⟨w.heap.size, 10, none⟩ = some (.int .i64 (s 10)) := HS.out.cell 10
          have kS11 : v6.cell? ⟨w.heap.size, 11, none⟩ = some (.int .i64 (s 11)) := HS.out.cell 11
          have kS12 : v6.cell? ⟨w.heap.size, 12, none⟩ = some (.int .i64 (s 12)) := HS.out.cell 12
          have kC0 : v6.cell? ⟨w.heap.size + 1, 0, none⟩ = some (.int .i64 p) := HC.out.cell 0
          have kC1 : v6.cell? ⟨w.heap.size + 1, 1, none⟩ = some (.int .i64 0) := HC.out.cell 1
          have kC2 : v6.cell? ⟨w.heap.size + 1, 2, none⟩ = some (.int .i64 0) := HC.out.cell 2
          have kC3 : v6.cell? ⟨w.heap.size + 1, 3, none⟩ = some (.int .i64 le) := HC.out.cell 3
          have kC4 : v6.cell? ⟨w.heap.size + 1, 4, none⟩ = some (.bool wa) := HC.out.cell 4
          have kC5 : v6.cell? ⟨w.heap.size + 1, 5, none⟩ = some (.slice A n c) := HC.out.cell 5
          have kL0 : v6.cell? ⟨w.heap.size + 1 + 1, 0, none⟩ = some (.int .u64 a0) := HL.out.cell 0
          have kL1 : v6.cell? ⟨w.heap.size + 1 + 1, 1, none⟩ = some (.int .u64 a1) := HL.out.cell 1
          have kL2 : v6.cell? ⟨w.heap.size + 1 + 1, 2, none⟩ = some (.int .u64 b0) := HL.out.cell 2
          have kL3 : v6.cell? ⟨w.heap.size + 1 + 1, 3, none⟩ = some (.int .u64 b1) := HL.out.cell 3
          have kW0 : v6.cell? ⟨gw, 0, none⟩ = some (.int .u64 t0) := HW.out.cell 0
          have kW1 : v6.cell? ⟨gw, 1, none⟩ = some (.int .u64 t1) := HW.out.cell 1
          have kW2 : v6.cell? ⟨gw, 2, none⟩ = some (.int .u64 u0) := HW.out.cell 2
          have kW3 : v6.cell? ⟨gw, 3, none⟩ = some (.int .u64 u1) := HW.out.cell 3
          have kW4 : v6.cell? ⟨gw, 4, none⟩ = some (.int .u64 l0) := HW.out.cell 4
          have kW5 : v6.cell? ⟨gw, 5, none⟩ = some (.int .u64 l1) := HW.out.cell 5
          go_wp2_with fail
          go_ret
          exact ⟨by first | rfl | (simp; done), EE.out⟩
      · have hdz : (d == 0) = false := by rw [beq_eq_false_iff_ne]; exact h7
        rw [hdz] at MB
        simp only [Bool.false_and, Bool.false_eq_true, if_false, Bool.not_false] at MB
        go_wp2_with fail
        refine (MB.out _ (HRd.out.kept EE.out)).mono ?_
        rintro e v2 ⟨rfl, hb⟩
        clear kS0 kS1 kS2 kS3 kS4 kS5 kS6 kS7 kS8 kS9 kS10 kS11 kS12 kC0 kC1 kC2 kC3 kC4 kC5 kL0 kL1 kL2 kL3
        have HS := Lib.hid (Blk.next (w := v1) HS.out hb)
        have HC := Lib.hid (Blk.next (w := v1) HC.out hb)
        have HL := Lib.hid (Blk.next (w := v1) HL.out hb)
        have EE := Lib.hid (EE.out.trans (hb.mono EE.out.size))
        clear hb
        have kS0 : v2.cell? ⟨w.heap.size, 0, none⟩ = some (.int .i64 (s 0)) := HS.out.cell 0
        have kS1 : v2.cell? ⟨w.heap.size, 1, none⟩ = some (.int .i64 (s 1)) := HS.out.cell 1
        have kS2 : v2.cell? ⟨w.heap.size, 2, none⟩ = some (.int .i64 (s 2)) := HS.out.cell 2
        have kS3 : v2.cell? ⟨w.heap.size, 3, none⟩ = some (.int .i64 (s 3)) := HS.out.cell 3
        have kS4 : v2.cell? ⟨w.heap.size, 4, none⟩ = some (.int .i64 (s 4)) := HS.out.cell 4
        have kS5 : v2.cell? ⟨w.heap.size, 5, none⟩ = some (.int .i64 (s 5)) := HS.out.cell 5
        have kS6 : v2.cell? ⟨w.heap.size, 6, none⟩ = some (.int .i64 (s 6)) := HS.out.cell 6
        have kS7 : v2.cell? ⟨w.heap.size, 7, none⟩ = some (.int .i64 (s 7)) := HS.out.cell 7
        have kS8 : v2.cell? ⟨w.heap.size, 8, none⟩ = some (.slice SA sn sc) := HS.out.cell 8
        have kS9 : v2.cell? ⟨w.heap.size, 9, none⟩ = some (.int .i64 (s 9)) := HS.out.cell 9
        have kS10 : v2.cell? ⟨w.heap.size, 10, none⟩ = some (.int .i64 (s 10)) := HS.out.cell 10
        have kS11 : v2.cell? ⟨w.heap.size, 11, none⟩ = some (.int .i64 (s 11)) := HS.out.cell 11
        have kS12 : v2.cell? ⟨w.heap.size, 12, none⟩ = some (.int .i64 (s 12)) := HS.out.cell 12
        have kC0 : v2.cell? ⟨w.heap.size + 1, 0, none⟩ = some (.int .i64 p) := HC.out.cell 0
        have kC1 : v2.cell? ⟨w.heap.size + 1, 1, none⟩ = some (.int .i64 d) := HC.out.cell 1
        have kC2 : v2.cell? ⟨w.heap.size + 1, 2, none⟩ = some (.int .i64 0) := HC.out.cell 2
        have kC3 : v2.cell? ⟨w.heap.size + 1, 3, none⟩ = some (.int .i64 le) := HC.out.cell 3
        have kC4 : v2.cell? ⟨w.heap.size + 1, 4, none⟩ = some (.bool wa) := HC.out.cell 4
        have kC5 : v2.cell? ⟨w.heap.size + 1, 5, none⟩ = some (.slice A n c) := HC.out.cell 5
        have kL0 : v2.cell? ⟨w.heap.size + 1 + 1, 0, none⟩ = some (.int .u64 a0) := HL.out.cell 0
        have kL1 : v2.cell? ⟨w.heap.size + 1 + 1, 1, none⟩ = some (.int .u64 a1) := HL.out.cell 1
        have kL2 : v2.cell? ⟨w.heap.size + 1 + 1, 2, none⟩ = some (.int .u64 b0) := HL.out.cell 2
        have kL3 : v2.cell? ⟨w.heap.size + 1 + 1, 3, none⟩ = some (.int .u64 b1) := HL.out.cell 3
        go_wp2_with fail
        refine (SEh.out _ (HRd.out.kept EE.out)).mono ?_
        rintro e v3 ⟨rfl, hb⟩
        clear kS0 kS1 kS2 kS3 kS4 kS5 kS6 kS7 kS8 kS9 kS10 kS11 kS12 kC0 kC1 kC2 kC3 kC4 kC5 kL0 kL1 kL2 kL3
        have HS := Lib.hid (Blk.next (w := v2) HS.out hb)
        have HC := Lib.hid (Blk.next (w := v2) HC.out hb)
        have HL := Lib.hid (Blk.next (w := v2) HL.out hb)
        have EE := Lib.hid (EE.out.trans (hb.mono EE.out.size))
        clear hb
        have kS0 : v3.cell? ⟨w.heap.size, 0, none⟩ = some (.int .i64 (s 0)) := HS.out.cell 0
        have kS1 : v3.cell? ⟨w.heap.size, 1, none⟩ = some (.int .i64 (s 1)) := HS.out.cell 1
        have kS2 : v3.cell? ⟨w.heap.size, 2, none⟩ = some (.int .i64 (s 2)) := HS.out.cell 2
        have kS3 : v3.cell? ⟨w.heap.size, 3, none⟩ = some (.int .i64 (s 3)) := HS.out.cell 3
        have kS4 : v3.cell? ⟨w.heap.size, 4, none⟩ = some (.int .i64 (s 4)) := HS.out.cell 4
        have kS5 : v3.cell? ⟨w.heap.size, 5, none⟩ = some (.int .i64 (s 5)) := HS.out.cell 5
        have kS6 : v3.cell? ⟨w.heap.size, 6, none⟩ = some (.int .i64 (s 6)) := HS.out.cell 6
        have kS7 : v3.cell? ⟨w.heap.size, 7, none⟩ = some (.int .i64 (s 7)) := HS.out.cell 7
        have kS8 : v3.cell? ⟨w.heap.size, 8, none⟩ = some (.slice SA sn sc) := HS.out.cell 8
        have kS9 : v3.cell? ⟨w.heap.size, 9, none⟩ = some (.int .i64 (s 9)) := HS.out.cell 9
        have kS10 : v3.cell? ⟨w.heap.size, 10, none⟩ = some (.int .i64 (s 10)) := HS.out.cell 10
        have kS11 : v3.cell? ⟨w.heap.size, 11, none⟩ = some (.int .i64 (s 11)) := HS.out.cell 11
        have kS12 : v3.cell? ⟨w.heap.size, 12, none⟩ = some (.int .i64 (s 12)) := HS.out.cell 12
        have kC0 : v3.cell? ⟨w.heap.size + 1, 0, none⟩ = some (.int .i64 p) := HC.out.cell 0
        have kC1 : v3.cell? ⟨w.heap.size + 1, 1, none⟩ = some (.int .i64 d) := HC.out.cell 1
        have kC2 : v3.cell? ⟨w.heap.size + 1, 2, none⟩ = some (.int .i64 0) := HC.out.cell 2
        have kC3 : v3.cell? ⟨w.heap.size + 1, 3, none⟩ = some (.int .i64 le) := HC.out.cell 3
        have kC4 : v3.cell? ⟨w.heap.size + 1, 4, none⟩ = some (.bool wa) := HC.out.cell 4
        have kC5 : v3.cell? ⟨w.heap.size + 1, 5, none⟩ = some (.slice A n c) := HC.out.cell 5
        have kL0 : v3.cell? ⟨w.heap.size + 1 + 1, 0, none⟩ = some (.int .u64 a0) := HL.out.cell 0
        have kL1 : v3.cell? ⟨w.heap.size + 1 + 1, 1, none⟩ = some (.int .u64 a1) := HL.out.cell 1
        have kL2 : v3.cell? ⟨w.heap.size + 1 + 1, 2, none⟩ = some (.int .u64 b0) := HL.out.cell 2
        have kL3 : v3.cell? ⟨w.heap.size + 1 + 1, 3, none⟩ = some (.int .u64 b1) := HL.out.cell 3
        have lS := HS.out.lt
        have lC := HC.out.lt
        have lL := HL.out.lt
        go_wp2_with fail
        clear kS0 kS1 kS2 kS3 kS4 kS5 kS6 kS7 kS8 kS9 kS10 kS11 kS12 kC0 kC1 kC2 kC3 kC4 kC5 kL0 kL1 kL2 kL3 lS lC lL
        have GS : Blk (v3.alloc (.cells #[.int .u64 t0, .int .u64 t1, .int .u64 u0, .int .u64 u1, .int .u64 l0, .int .u64 l1] 43)) (w.heap.size) 25 #[.int .i64 (s 0), .int .i64 (s 1), .int .i64 (s 2), .int .i64 (s 3), .int .i64 (s 4), .int .i64 (s 5), .int .i64 (s 6), .int .i64 (s 7), .slice SA sn sc, .int .i64 (s 9), .int .i64 (s 10), .int .i64 (s 11), .int .i64 (s 12)] := HS.out.alloc (.cells #[.int .u64 t0, .int .u64 t1, .int .u64 u0, .int .u64 u1, .int .u64 l0, .int .u64 l1] 43)
        have GC : Blk (v3.alloc (.cells #[.int .u64 t0, .int .u64 t1, .int .u64 u0, .int .u64 u1, .int .u64 l0, .int .u64 l1] 43)) (w.heap.size + 1) 29 #[.int .i64 p, .int .i64 d, .int .i64 0, .int .i64 le, .bool wa, .slice A n c] := HC.out.alloc (.cells #[.int .u64 t0, .int .u64 t1, .int .u64 u0, .int .u64 u1, .int .u64 l0, .int .u64 l1] 43)
        have GL : Blk (v3.alloc (.cells #[.int .u64 t0, .int .u64 t1, .int .u64 u0, .int .u64 u1, .int .u64 l0, .int .u64 l1] 43)) (w.heap.size + 1 + 1) 33 #[.int .u64 a0, .int .u64 a1, .int .u64 b0, .int .u64 b1] := HL.out.alloc (.cells #[.int .u64 t0, .int .u64 t1, .int .u64 u0, .int .u64 u1, .int .u64 l0, .int .u64 l1] 43)
        have GW : Blk (v3.alloc (.cells #[.int .u64 t0, .int .u64 t1, .int .u64 u0, .int .u64 u1, .int .u64 l0, .int .u64 l1] 43)) (v3.heap.size) 43 #[.int .u64 t0, .int .u64 t1, .int .u64 u0, .int .u64 u1, .int .u64 l0, .int .u64 l1] := Blk.new v3 _ _
        have GE : Below w.heap.size w (v3.alloc (.cells #[.int .u64 t0, .int .u64 t1, .int .u64 u0, .int .u64 u1, .int .u64 l0, .int .u64 l1] 43)) := EE.out.alloc EE.out.size (.cells #[.int .u64 t0, .int .u64 t1, .int .u64 u0, .int .u64 u1, .int .u64 l0, .int .u64 l1] 43)
        obtain ⟨gw, hgw⟩ : ∃ g, v3.heap.size = g := ⟨_, rfl⟩
        have ne3_0 : gw ≠ w.heap.size := by have := HS.out.lt; omega
        have ne0_3 : w.heap.size ≠ gw := by have := HS.out.lt; omega
        have ne3_1 : gw ≠ w.heap.size + 1 := by have := HC.out.lt; omega
        have ne1_3 : w.heap.size + 1 ≠ gw := by have := HC.out.lt; omega
        have ne3_2 : gw ≠ w.heap.size + 1 + 1 := by have := HL.out.lt; omega
        have ne2_3 : w.heap.size + 1 + 1 ≠ gw := by have := HL.out.lt; omega
        have gegw : w.heap.size ≤ gw := by have := EE.out.size; omega
        rw [hgw] at GW ⊢
        clear hgw
        obtain ⟨v4, hv4⟩ : ∃ V, (v3.alloc (.cells #[.int .u64 t0, .int .u64 t1, .int .u64 u0, .int .u64 u1, .int .u64 l0, .int .u64 l1] 43)) = V := ⟨_, rfl⟩
        rw [hv4] at GS GC GL GW GE ⊢
        have HS := Lib.hid GS
        have HC := Lib.hid GC
        have HL := Lib.hid GL
        have HW := Lib.hid GW
        have EE := Lib.hid GE
        clear hv4 GS GC GL GW GE
        have kS0 : v4.cell? ⟨w.heap.size, 0, none⟩ = some (.int .i64 (s 0)) := HS.out.cell 0
        have kS1 : v4.cell? ⟨w.heap.size, 1, none⟩ = some (.int .i64 (s 1)) := HS.out.cell 1
        have kS2 : v4.cell? ⟨w.heap.size, 2, none⟩ = some (.int .i64 (s 2)) := HS.out.cell 2
        have kS3 : v4.cell? ⟨w.heap.size, 3, none⟩ = some (.int .i64 (s 3)) := HS.out.cell 3
        have kS4 : v4.cell? ⟨w.heap.size, 4, none⟩ = some (.int .i64 (s 4)) := HS.out.cell 4
        have kS5 : v4.cell? ⟨w.heap.size, 5, none⟩ = some (.int .i64 (s 5)) := HS.out.cell 5
        have kS6 : v4.cell? ⟨w.heap.size, 6, none⟩ = some (.int .i64 (s 6)) := HS.out.cell 6
        have kS7 : v4.cell? ⟨w.heap.size, 7, none⟩ = some (.int .i64 (s 7)) := HS.out.cell 7
        have kS8 : v4.cell? ⟨w.heap.size, 8, none⟩ = some (.slice SA sn sc) := HS.out.cell 8
        have kS9 : v4.cell? ⟨w.heap.size, 9, none⟩ = some (.int .i64 (s 9)) := HS.out.cell 9
        have kS10 : v4.cell? ⟨w.heap.size, 10, none⟩ = some (.int .i64 (s 10)) := HS.out.cell 10
        have kS11 : v4.cell? ⟨w.heap.size, 11, none⟩ = some (.int .i64 (s 11)) := HS.out.cell 11
        have kS12 : v4.cell? ⟨w.heap.size, 12, none⟩ = some (.int .i64 (s 12)) := HS.out.cell 12
        have kC0 : v4.cell? ⟨w.heap.size + 1, 0, none⟩ = some (.int .i64 p) := HC.out.cell 0
        have kC1 : v4.cell? ⟨w.heap.size + 1, 1, none⟩ = some (.int .i64 d) := HC.out.cell 1
        have kC2 : v4.cell? ⟨w.heap.size + 1, 2, none⟩ = some (.int .i64 0) := HC.out.cell 2
        have kC3 : v4.cell? ⟨w.heap.size + 1, 3, none⟩ = some (.int .i64 le) := HC.out.cell 3
        have kC4 : v4.cell? ⟨w.heap.size + 1, 4, none⟩ = some (.bool wa) := HC.out.cell 4
        have kC5 : v4.cell? ⟨w.heap.size + 1, 5, none⟩ = some (.slice A n c) := HC.out.cell 5
        have kL0 : v4.cell? ⟨w.heap.size + 1 + 1, 0, none⟩ = some (.int .u64 a0) := HL.out.cell 0
        have kL1 : v4.cell? ⟨w.heap.size + 1 + 1, 1, none⟩ = some (.int .u64 a1) := HL.out.cell 1
        have kL2 : v4.cell? ⟨w.heap.size + 1 + 1, 2, none⟩ = some (.int .u64 b0) := HL.out.cell 2
        have kL3 : v4.cell? ⟨w.heap.size + 1 + 1, 3, none⟩ = some (.int .u64 b1) := HL.out.cell 3
        have kW0 : v4.cell? ⟨gw, 0, none⟩ = some (.int .u64 t0) := HW.out.cell 0
        have kW1 : v4.cell? ⟨gw, 1, none⟩ = some (.int .u64 t1) := HW.out.cell 1
        have kW2 : v4.cell? ⟨gw, 2, none⟩ = some (.int .u64 u0) := HW.out.cell 2
        have kW3 : v4.cell? ⟨gw, 3, none⟩ = some (.int .u64 u1) := HW.out.cell 3
        have kW4 : v4.cell? ⟨gw, 4, none⟩ = some (.int .u64 l0) := HW.out.cell 4
        have kW5 : v4.cell? ⟨gw, 5, none⟩ = some (.int .u64 l1) := HW.out.cell 5
        refine (qalive _).mono ?_
        rintro e v5 ⟨rfl, hb⟩
        clear kS0 kS1 kS2 kS3 kS4 kS5 kS6 kS7 kS8 kS9 kS10 kS11 kS12 kC0 kC1 kC2 kC3 kC4 kC5 kL0 kL1 kL2 kL3 kW0 kW1 kW2 kW3 kW4 kW5
        have HS := Lib.hid (Blk.next (w := v4) HS.out hb)
        have HC := Lib.hid (Blk.next (w := v4) HC.out hb)
        have HL := Lib.hid (Blk.next (w := v4) HL.out hb)
        have HW := Lib.hid (Blk.next (w := v4) HW.out hb)
        have EE := Lib.hid (EE.out.trans (hb.mono EE.out.size))
        clear hb
        have kS0 : v5.cell? ⟨w.heap.size, 0, none⟩ = some (.int .i64 (s 0)) := HS.out.cell 0
        have kS1 : v5.cell? ⟨w.heap.size, 1, none⟩ = some (.int .i64 (s 1)) := HS.out.cell 1
        have kS2 : v5.cell? ⟨w.heap.size, 2, none⟩ = some (.int .i64 (s 2)) := HS.out.cell 2
        have kS3 : v5.cell? ⟨w.heap.size, 3, none⟩ = some (.int .i64 (s 3)) := HS.out.cell 3
        have kS4 : v5.cell? ⟨w.heap.size, 4, none⟩ = some (.int .i64 (s 4)) := HS.out.cell 4
        have kS5 : v5.cell? ⟨w.heap.size, 5, none⟩ = some (.int .i64 (s 5)) := HS.out.cell 5
        have kS6 : v5.cell? ⟨w.heap.size, 6, none⟩ = some (.int .i64 (s 6)) := HS.out.cell 6
        have kS7 : v5.cell? ⟨w.heap.size, 7, none⟩ = some (.int .i64 (s 7)) := HS.out.cell 7
        have kS8 : v5.cell? ⟨w.heap.size, 8, none⟩ = some (.slice SA sn sc) := HS.out.cell 8
        have kS9 : v5.cell? ⟨w.heap.size, 9, none⟩ = some (.int .i64 (s 9)) := HS.out.cell 9
        have kS10 : v5.cell? ⟨w.heap.size, 10, none⟩ = some (.int .i64 (s 10)) := HS.out.cell 10
        have kS11 : v5.cell? ⟨w.heap.size, 11, none⟩ = some (.int .i64 (s 11)) := HS.out.cell 11
        have kS12 : v5.cell? ⟨w.heap.size, 12, none⟩ = some (.int .i64 (s 12)) := HS.out.cell 12
        have kC0 : v5.cell? ⟨w.heap.size + 1, 0, none⟩ = some (.int .i64 p) := HC.out.cell 0
        have kC1 : v5.cell? ⟨w.heap.size + 1, 1, none⟩ = some (.int .i64 d) := HC.out.cell 1
        have kC2 : v5.cell? ⟨w.heap.size + 1, 2, none⟩ = some (.int .i64 0) := HC.out.cell 2
        have kC3 : v5.cell? ⟨w.heap.size + 1, 3, none⟩ = some (.int .i64 le) := HC.out.cell 3
        have kC4 : v5.cell? ⟨w.heap.size + 1, 4, none⟩ = some (.bool wa) := HC.out.cell 4
        have kC5 : v5.cell? ⟨w.heap.size + 1, 5, none⟩ = some (.slice A n c) := HC.out.cell 5
        have kL0 : v5.cell? ⟨w.heap.size + 1 + 1, 0, none⟩ = some (.int .u64 a0) := HL.out.cell 0
        have kL1 : v5.cell? ⟨w.heap.size + 1 + 1, 1, none⟩ = some (.int .u64 a1) := HL.out.cell 1
        have kL2 : v5.cell? ⟨w.heap.size + 1 + 1, 2, none⟩ = some (.int .u64 b0) := HL.out.cell 2
        have kL3 : v5.cell? ⟨w.heap.size + 1 + 1, 3, none⟩ = some (.int .u64 b1) := HL.out.cell 3
        have kW0 : v5.cell? ⟨gw, 0, none⟩ = some (.int .u64 t0) := HW.out.cell 0
        have kW1 : v5.cell? ⟨gw, 1, none⟩ = some (.int .u64 t1) := HW.out.cell 1
        have kW2 : v5.cell? ⟨gw, 2, none⟩ = some (.int .u64 u0) := HW.out.cell 2
        have kW3 : v5.cell? ⟨gw, 3, none⟩ = some (.int .u64 u1) := HW.out.cell 3
        have kW4 : v5.cell? ⟨gw, 4, none⟩ = some (.int .u64 l0) := HW.out.cell 4
        have kW5 : v5.cell? ⟨gw, 5, none⟩ = some (.int .u64 l1) := HW.out.cell 5
        go_wp2_with fail
        go_ret
        exact ⟨by first | rfl | (simp; done), EE.out⟩
    · have hmz : md ≠ 0 := by omega
      have hmo : md ≠ 1 := by omega
      have hle := (hq2 hmz hmo).1
      have hm0 : (md == 0) = false := by rw [beq_eq_false_iff_ne]; exact hmz
      have hm1 : (md == 1) = false := by rw [beq_eq_false_iff_ne]; exact hmo
      have MB := Lib.hid (fun w => QD.out w h6)
      clear hq0 hq1 hq2 QG QI QD RA SE ST WY h6
      go_wp2_with fail
      refine (MB.out _).mono ?_
      rintro e v2 ⟨rfl, hb⟩
      clear kS0 kS1 kS2 kS3 kS4 kS5 kS6 kS7 kS8 kS9 kS10 kS11 kS12 kC0 kC1 kC2 kC3 kC4 kC5 kL0 kL1 kL2 kL3
      have HS := Lib.hid (Blk.next (w := v1) HS.out hb)
      have HC := Lib.hid (Blk.next (w := v1) HC.out hb)
      have HL := Lib.hid (Blk.next (w := v1) HL.out hb)
      have EE := Lib.hid (EE.out.trans (hb.mono EE.out.size))
      clear hb
      have kS0 : v2.cell? ⟨w.heap.size, 0, none⟩ = some (.int .i64 (s 0)) := HS.out.cell 0
      have kS1 : v2.cell? ⟨w.heap.size, 1, none⟩ = some (.int .i64 (s 1)) := HS.out.cell 1
      have kS2 : v2.cell? ⟨w.heap.size, 2, none⟩ = some (.int .i64 (s 2)) := HS.out.cell 2
      have kS3 : v2.cell? ⟨w.heap.size, 3, none⟩ = some (.int .i64 (s 3)) := HS.out.cell 3
      have kS4 : v2.cell? ⟨w.heap.size, 4, none⟩ = some (.int .i64 (s 4)) := HS.out.cell 4
      have kS5 : v2.cell? ⟨w.heap.size, 5, none⟩ = some (.int .i64 (s 5)) := HS.out.cell 5
      have kS6 : v2.cell? ⟨w.heap.size, 6, none⟩ = some (.int .i64 (s 6)) := HS.out.cell 6
      have kS7 : v2.cell? ⟨w.heap.size, 7, none⟩ = some (.int .i64 (s 7)) := HS.out.cell 7
      have kS8 : v2.cell? ⟨w.heap.size, 8, none⟩ = some (.slice SA sn sc) := HS.out.cell 8
      have kS9 : v2.cell? ⟨w.heap.size, 9, none⟩ = some (.int .i64 (s 9)) := HS.out.cell 9
      have kS10 : v2.cell? ⟨w.heap.size, 10, none⟩ = some (.int .i64 (s 10)) := HS.out.cell 10
      have kS11 : v2.cell? ⟨w.heap.size, 11, none⟩ = some (.int .i64 (s 11)) := HS.out.cell 11
      have kS12 : v2.cell? ⟨w.heap.size, 12, none⟩ = some (.int .i64 (s 12)) := HS.out.cell 12
      have kC0 : v2.cell? ⟨w.heap.size + 1, 0, none⟩ = some (.int .i64 p) := HC.out.cell 0
      have kC1 : v2.cell? ⟨w.heap.size + 1, 1, none⟩ = some (.int .i64 d) := HC.out.cell 1
      have kC2 : v2.cell? ⟨w.heap.size + 1, 2, none⟩ = some (.int .i64 md) := HC.out.cell 2
      have kC3 : v2.cell? ⟨w.heap.size + 1, 3, none⟩ = some (.int .i64 le) := HC.out.cell 3
      have kC4 : v2.cell? ⟨w.heap.size + 1, 4, none⟩ = some (.bool wa) := HC.out.cell 4
      have kC5 : v2.cell? ⟨w.heap.size + 1, 5, none⟩ = some (.slice A n c) := HC.out.cell 5
      have kL0 : v2.cell? ⟨w.heap.size + 1 + 1, 0, none⟩ = some (.int .u64 a0) := HL.out.cell 0
      have kL1 : v2.cell? ⟨w.heap.size + 1 + 1, 1, none⟩ = some (.int .u64 a1) := HL.out.cell 1
      have kL2 : v2.cell? ⟨w.heap.size + 1 + 1, 2, none⟩ = some (.int .u64 b0) := HL.out.cell 2
      have kL3 : v2.cell? ⟨w.heap.size + 1 + 1, 3, none⟩ = some (.int .u64 b1) := HL.out.cell 3
      go_wp2_with fail
      refine (qalive _).mono ?_
      rintro e v3 ⟨rfl, hb⟩
      clear kS0 kS1 kS2 kS3 kS4 kS5 kS6 kS7 kS8 kS9 kS10 kS11 kS12 kC0 kC1 kC2 kC3 kC4 kC5 kL0 kL1 kL2 kL3
      have HS := Lib.hid (Blk.next (w := v2) HS.out hb)
      have HC := Lib.hid (Blk.next (w := v2) HC.out hb)
      have HL := Lib.hid (Blk.next (w := v2) HL.out hb)
      have EE := Lib.hid (EE.out.trans (hb.mono EE.out.size))
      clear hb
      have kS0 : v3.cell? ⟨w.heap.size, 0, none⟩ = some (.int .i64 (s 0)) := HS.out.cell 0
      have kS1 : v3.cell? ⟨w.heap.size, 1, none⟩ = some (.int .i64 (s 1)) := HS.out.cell 1
      have kS2 : v3.cell? ⟨w.heap.size, 2, none⟩ = some (.int .i64 (s 2)) := HS.out.cell 2
      have kS3 : v3.cell? ⟨w.heap.size, 3, none⟩ = some (.int .i64 (s 3)) := HS.out.cell 3
      have kS4 : v3.cell? ⟨w.heap.size, 4, none⟩ = some (.int .i64 (s 4)) := HS.out.cell 4
      have kS5 : v3.cell? ⟨w.heap.size, 5, none⟩ = some (.int .i64 (s 5)) := HS.out.cell 5
      have kS6 : v3.cell? ⟨w.heap.size, 6, none⟩ = some (.int .i64 (s 6)) := HS.out.cell 6
      have kS7 : v3.cell? ⟨w.heap.size, 7, none⟩ = some (.int .i64 (s 7)) := HS.out.cell 7
      have kS8 : v3.cell? ⟨w.heap.size, 8, none⟩ = some (.slice SA sn sc) := HS.out.cell 8
      have kS9 : v3.cell? ⟨w.heap.size, 9, none⟩ = some (.int .i64 (s 9)) := HS.out.cell 9
      have kS10 : v3.cell? ⟨w.heap.size, 10, none⟩ = some (.int .i64 (s 10)) := HS.out.cell 10
      have kS11 : v3.cell? ⟨w.heap.size, 11, none⟩ = some (.int .i64 (s 11)) := HS.out.cell 11
      have kS12 : v3.cell? ⟨w.heap.size, 12, none⟩ = some (.int .i64 (s 12)) := HS.out.cell 12
      have kC0 : v3.cell? ⟨w.heap.size + 1, 0, none⟩ = some (.int .i64 p) := HC.out.cell 0
      have kC1 : v3.cell? ⟨w.heap.size + 1, 1, none⟩ = some (.int .i64 d) := HC.out.cell 1
      have kC2 : v3.cell? ⟨w.heap.size + 1, 2, none⟩ = some (.int .i64 md) := HC.out.cell 2
      have kC3 : v3.cell? ⟨w.heap.size + 1, 3, none⟩ = some (.int .i64 le) := HC.out.cell 3
      have kC4 : v3.cell? ⟨w.heap.size + 1, 4, none⟩ = some (.bool wa) := HC.out.cell 4
      have kC5 : v3.cell? ⟨w.heap.size + 1, 5, none⟩ = some (.slice A n c) := HC.out.cell 5
      have kL0 : v3.cell? ⟨w.heap.size + 1 + 1, 0, none⟩ = some (.int .u64 a0) := HL.out.cell 0
      have kL1 : v3.cell? ⟨w.heap.size + 1 + 1, 1, none⟩ = some (.int .u64 a1) := HL.out.cell 1
      have kL2 : v3.cell? ⟨w.heap.size + 1 + 1, 2, none⟩ = some (.int .u64 b0) := HL.out.cell 2
      have kL3 : v3.cell? ⟨w.heap.size + 1 + 1, 3, none⟩ = some (.int .u64 b1) := HL.out.cell 3
      go_wp2_with fail
      go_ret
      exact ⟨by first | rfl | (simp; done), EE.out⟩
theorem walk {s0 s1 s2 s3 s4 s5 s6 s7 s9 s10 s11 s12 : Int} {SA : Option Addr} {sc sn : Nat} {sz : Nat → Nat → Int} {p d md le : Int} {wa : Bool} {A : Option Addr} {c n : Nat} {z : Nat → Nat → Int} {a0 a1 b0 b1 : Int} {w : World} (_ : (Lit.int .i64 s0).wf = true) (_ : (Lit.int .i64 s1).wf = true) (_ : (Lit.int .i64 s2).wf = true) (_ : (Lit.int .i64 s3).wf = true) (_ : (Lit.int .i64 s4).wf = true) (_ : (Lit.int .i64 s5).wf = true) (_ : (Lit.int .i64 s6).wf = true) (_ : (Lit.int .i64 s7).wf = true) (_ : sn ≤ sc) (_ : sc ≤ maxLen) (hs : RdZ w 3 SA sn sz) (_ : SA = none → sc = 0) (_ : (Lit.int .i64 s9).wf = true) (_ : (Lit.int .i64 s10).wf = true) (_ : (Lit.int .i64 s11).wf = true) (_ : (Lit.int .i64 s12).wf = true) (hp : (Lit.int .i64 p).wf = true) (hd : (Lit.int .i64 d).wf = true) (hmd : (Lit.int .i64 md).wf = true) (hle : (Lit.int .i64 le).wf = true) (hnc : n ≤ c) (hcm : c ≤ maxLen) (hr : RdZ w 2 A n z) (_ : A = none → c = 0) (w0 : (Lit.int .u64 a0).wf = true) (w1 : (Lit.int .u64 a1).wf = true) (w2 : (Lit.int .u64 b0).wf = true) (w3 : (Lit.int .u64 b1).wf = true) :
    Calls Try.prog 5 #[.agg #[.int .i64 s0, .int .i64 s1, .int .i64 s2, .int .i64 s3, .int .i64 s4, .int .i64 s5, .int .i64 s6, .int .i64 s7, .slice SA sn sc, .int .i64 s9, .int .i64 s10, .int .i64 s11, .int .i64 s12], .agg #[.int .i64 p, .int .i64 d, .int .i64 md, .int .i64 le, .bool wa, .slice A n c], .agg #[.int .u64 a0, .int .u64 a1, .int .u64 b0, .int .u64 b1]] w fun e w' => e = .returned (.bool true) ∧ Below w.heap.size w w' := by
  have u : ∀ {q : Int}, (Lit.int .u64 q).wf = true → 0 ≤ q ∧ q ≤ 18446744073709551615 := fun h => by simpa [Lit.wf, IntKind.min, IntKind.max, IntKind.signed, IntKind.bits] using h
  obtain ⟨x0, rfl⟩ := Int.eq_ofNat_of_zero_le (u w0).1
  obtain ⟨x1, rfl⟩ := Int.eq_ofNat_of_zero_le (u w1).1
  obtain ⟨y0, rfl⟩ := Int.eq_ofNat_of_zero_le (u w2).1
  obtain ⟨y1, rfl⟩ := Int.eq_ofNat_of_zero_le (u w3).1
  have h0 := (u w0).2
  have h1 := (u w1).2
  have h2 := (u w2).2
  have h3 := (u w3).2
  obtain ⟨s, hss⟩ : ∃ s : Nat → Int, s 0 = s0 ∧ s 1 = s1 ∧ s 2 = s2 ∧ s 3 = s3 ∧ s 4 = s4 ∧ s 5 = s5 ∧ s 6 = s6 ∧ s 7 = s7 ∧ s 9 = s9 ∧ s 10 = s10 ∧ s 11 = s11 ∧ s 12 = s12 :=
    ⟨fun j => if j = 0 then s0 else if j = 1 then s1 else if j = 2 then s2 else if j = 3 then s3 else if j = 4 then s4 else if j = 5 then s5 else if j = 6 then s6 else if j = 7 then s7 else if j = 9 then s9 else if j = 10 then s10 else if j = 11 then s11 else s12, rfl, rfl, rfl, rfl, rfl, rfl, rfl, rfl, rfl, rfl, rfl, rfl⟩
  obtain ⟨rfl, rfl, rfl, rfl, rfl, rfl, rfl, rfl, rfl, rfl, rfl, rfl⟩ := hss
  exact walk_f s SA sn sc sz p d md le wa A n c z x0 x1 y0 y1 w hs hr hp hd hmd hle hnc hcm (by omega) (by omega) (by omega) (by omega)

end Go.Proofs.Ytffcmfpadaebdaa.quietNext
