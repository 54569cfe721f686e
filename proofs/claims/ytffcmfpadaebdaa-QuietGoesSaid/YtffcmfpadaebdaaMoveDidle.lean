/- A tick of a car whose door is closed: the program's. -/
import Derived.Test.YtffcmfpadaebdaaFaceB
import Derived.Test.YtffcmfpadaebdaaCarM
import Derived.Test.YtffcmfpadaebdaaWantM
import Derived.Test.YtffcmfpadaebdaaRows
import Derived.Test.YtffcmfpadaebdaaKitM
import Derived.Test.YtffcmfpadaebdaaBitM
import Derived.Laws.AppendOwnNone
import Derived.WalkKit
import Derived.OwnWalk
import Derived.Laws.MakeOwn
import Derived.Laws.OwnMore
import Derived.Deep.LoopGhost
import Derived.IntWalk
import Derived.Lib.Hide
import Derived.WalkSpells
import Derived.WalkLawsBesides
import Derived.Laws.CopyOwn
import Derived.Deep.QuietTactic
import Derived.Deep.RegionHeld3
import Derived.BigQuiet
import Derived.BigRegion
import Derived.Test.YtffcmfpadaebdaaMoveB
import Derived.Test.YtffcmfpadaebdaaFaceC
import Derived.Test.YtffcmfpadaebdaaFaceD
import Derived.Test.YtffcmfpadaebdaaNearH
import Derived.Test.YtffcmfpadaebdaaPlaceA
import Derived.Test.YtffcmfpadaebdaaMoveMath
import Derived.Test.YtffcmfpadaebdaaMoveC
import Derived.Maps.AppendAt
import Derived.Test.YtffcmfpadaebdaaMoveD
namespace Go.Proofs.Ytffcmfpadaebdaa
open Go.RowKit
set_option linter.unusedSimpArgs false
set_option linter.unusedVariables false
set_option maxRecDepth 100000 in
set_option maxHeartbeats 2000000 in
theorem mstep_idle (s : Nat → Int) (SA : Option Addr) (sn sc : Nat) (p d md le : Int) (wa : Bool) (A : Option Addr) (n c : Nat) (z : Nat → Nat → Int) (U D : Nat → Bool) (q r : Int) (w : World) (hr : RdZ w 2 A n z) (hl : n ≤ 1000) (hg : 1 ≤ s 1) (hp : 0 ≤ p) (hp' : p ≤ 1048576) (r0 : 0 ≤ r) (r1 : r < s 1) (e : p = q * s 1 + r) (d0 : -1 ≤ d) (d1 : d ≤ 1) (g1 : s 1 ≤ 1048576) (hr0 : r = 0) (st : stopB (rdF z n) (waF z n (s 3) U D) (laF n (s 3) U) (laF n (s 3) D) q d = false) (ho : ofWay (waF z n (s 3) U D) (laF n (s 3) U) (laF n (s 3) D) q d = 0) :
    Calls Try.prog 8 #[scnV s SA sn sc, carV p d md le wa A n c, setV U, setV D] w fun e w' => ∃ A' c', e = .returned (carV p 0 0 le wa A' n c') ∧ RdZ w' 2 A' n z ∧ (n ≤ c' ∧ c' ≤ maxLen) ∧ Below w.heap.size w w' := by
  have hz : (s 1 == 0) = false := by rw [beq_eq_false_iff_ne]; omega
  obtain ⟨e1, e2⟩ := ediv_of hg r0 r1 e
  have CL := fun w hr => clone_riders A n c z w hr (by omega)
  have FL := fun w => floor_any p (s 1) q r w hg hp (by omega) r0 r1 e
  have SE := fun A c w hr => see_any p d md le wa A n c z (s 3) U D w hr (by omega)
  have ST := fun A c w hr => stop_any (rdF z n) (waF z n (s 3) U D) (laF n (s 3) U) (laF n (s 3) D) q p d md le wa A n c z w hr (by omega) rfl
  have WY := fun w => ofway_any (waF z n (s 3) U D) (laF n (s 3) U) (laF n (s 3) D) q d w
  have OB : -1 ≤ ofWay (waF z n (s 3) U D) (laF n (s 3) U) (laF n (s 3) D) q d ∧ ofWay (waF z n (s 3) U D) (laF n (s 3) U) (laF n (s 3) D) q d ≤ 1 := ofWay_bd _ _ _ _ _ d0 d1
  rw [st] at ST
  rw [ho] at WY
  clear st
  unfold scnV carV setV sgtV at *
  obtain ⟨a0, ha0⟩ : ∃ x, wordX U = x := ⟨_, rfl⟩
  obtain ⟨a1, ha1⟩ : ∃ x, wordY U = x := ⟨_, rfl⟩
  obtain ⟨b0, hb0⟩ : ∃ x, wordX D = x := ⟨_, rfl⟩
  obtain ⟨b1, hb1⟩ : ∃ x, wordY D = x := ⟨_, rfl⟩
  obtain ⟨u0, hu0⟩ : ∃ x, wordX (laF n (s 3) U) = x := ⟨_, rfl⟩
  obtain ⟨u1, hu1⟩ : ∃ x, wordY (laF n (s 3) U) = x := ⟨_, rfl⟩
  obtain ⟨l0, hl0⟩ : ∃ x, wordX (laF n (s 3) D) = x := ⟨_, rfl⟩
  obtain ⟨l1, hl1⟩ : ∃ x, wordY (laF n (s 3) D) = x := ⟨_, rfl⟩
  obtain ⟨t0, ht0⟩ : ∃ x, wordX (waF z n (s 3) U D) = x := ⟨_, rfl⟩
  obtain ⟨t1, ht1⟩ : ∃ x, wordY (waF z n (s 3) U D) = x := ⟨_, rfl⟩
  simp only [ha0, ha1, hb0, hb1, hu0, hu1, hl0, hl1, ht0, ht1] at SE ST WY ⊢
  replace CL := Lib.hid CL
  replace FL := Lib.hid FL
  replace SE := Lib.hid SE
  replace ST := Lib.hid ST
  replace WY := Lib.hid WY
  have HRd := Lib.hid hr
  clear ha0 ha1 hb0 hb1 hu0 hu1 hl0 hl1 ht0 ht1 hr ho OB
  subst hr0
  have hdr : decide ((0 : Int) = 0) = true := rfl
  have hmod : (p % s 1 != 0) = false := by rw [e2]; rfl
  have E1 := Lib.hid e1; have E2 := Lib.hid e2
  clear e e1 e2
  go_enter Try.func8, Try.ntmps8
  go_wp2_with fail
  have BS := ((((Blk.new w #[.int .i64 (s 0), .int .i64 (s 1), .int .i64 (s 2), .int .i64 (s 3), .int .i64 (s 4), .int .i64 (s 5), .int .i64 (s 6), .int .i64 (s 7), .slice SA sn sc, .int .i64 (s 9), .int .i64 (s 10), .int .i64 (s 11), .int .i64 (s 12)] 25).alloc (.cells #[.int .i64 p, .int .i64 d, .int .i64 md, .int .i64 le, .bool wa, .slice A n c] 29)).alloc (.cells #[.int .u64 a0, .int .u64 a1] 32)).alloc (.cells #[.int .u64 b0, .int .u64 b1] 32)).alloc (.cells #[.int .i64 0, .int .i64 0, .int .i64 0, .int .i64 0, .bool false, .slice none 0 0] 29)
  have BC := (((Blk.new (w.alloc (.cells #[.int .i64 (s 0), .int .i64 (s 1), .int .i64 (s 2), .int .i64 (s 3), .int .i64 (s 4), .int .i64 (s 5), .int .i64 (s 6), .int .i64 (s 7), .slice SA sn sc, .int .i64 (s 9), .int .i64 (s 10), .int .i64 (s 11), .int .i64 (s 12)] 25)) #[.int .i64 p, .int .i64 d, .int .i64 md, .int .i64 le, .bool wa, .slice A n c] 29).alloc (.cells #[.int .u64 a0, .int .u64 a1] 32)).alloc (.cells #[.int .u64 b0, .int .u64 b1] 32)).alloc (.cells #[.int .i64 0, .int .i64 0, .int .i64 0, .int .i64 0, .bool false, .slice none 0 0] 29)
  rw [World.size_alloc] at BC
  have BU := ((Blk.new ((w.alloc (.cells #[.int .i64 (s 0), .int .i64 (s 1), .int .i64 (s 2), .int .i64 (s 3), .int .i64 (s 4), .int .i64 (s 5), .int .i64 (s 6), .int .i64 (s 7), .slice SA sn sc, .int .i64 (s 9), .int .i64 (s 10), .int .i64 (s 11), .int .i64 (s 12)] 25)).alloc (.cells #[.int .i64 p, .int .i64 d, .int .i64 md, .int .i64 le, .bool wa, .slice A n c] 29)) #[.int .u64 a0, .int .u64 a1] 32).alloc (.cells #[.int .u64 b0, .int .u64 b1] 32)).alloc (.cells #[.int .i64 0, .int .i64 0, .int .i64 0, .int .i64 0, .bool false, .slice none 0 0] 29)
  rw [World.size_alloc, World.size_alloc] at BU
  have BD := (Blk.new (((w.alloc (.cells #[.int .i64 (s 0), .int .i64 (s 1), .int .i64 (s 2), .int .i64 (s 3), .int .i64 (s 4), .int .i64 (s 5), .int .i64 (s 6), .int .i64 (s 7), .slice SA sn sc, .int .i64 (s 9), .int .i64 (s 10), .int .i64 (s 11), .int .i64 (s 12)] 25)).alloc (.cells #[.int .i64 p, .int .i64 d, .int .i64 md, .int .i64 le, .bool wa, .slice A n c] 29)).alloc (.cells #[.int .u64 a0, .int .u64 a1] 32)) #[.int .u64 b0, .int .u64 b1] 32).alloc (.cells #[.int .i64 0, .int .i64 0, .int .i64 0, .int .i64 0, .bool false, .slice none 0 0] 29)
  rw [World.size_alloc, World.size_alloc, World.size_alloc] at BD
  have BQ := Blk.new ((((w.alloc (.cells #[.int .i64 (s 0), .int .i64 (s 1), .int .i64 (s 2), .int .i64 (s 3), .int .i64 (s 4), .int .i64 (s 5), .int .i64 (s 6), .int .i64 (s 7), .slice SA sn sc, .int .i64 (s 9), .int .i64 (s 10), .int .i64 (s 11), .int .i64 (s 12)] 25)).alloc (.cells #[.int .i64 p, .int .i64 d, .int .i64 md, .int .i64 le, .bool wa, .slice A n c] 29)).alloc (.cells #[.int .u64 a0, .int .u64 a1] 32)).alloc (.cells #[.int .u64 b0, .int .u64 b1] 32)) #[.int .i64 0, .int .i64 0, .int .i64 0, .int .i64 0, .bool false, .slice none 0 0] 29
  rw [World.size_alloc, World.size_alloc, World.size_alloc, World.size_alloc] at BQ
  have BE : Below w.heap.size w (((((w.alloc (.cells #[.int .i64 (s 0), .int .i64 (s 1), .int .i64 (s 2), .int .i64 (s 3), .int .i64 (s 4), .int .i64 (s 5), .int .i64 (s 6), .int .i64 (s 7), .slice SA sn sc, .int .i64 (s 9), .int .i64 (s 10), .int .i64 (s 11), .int .i64 (s 12)] 25)).alloc (.cells #[.int .i64 p, .int .i64 d, .int .i64 md, .int .i64 le, .bool wa, .slice A n c] 29)).alloc (.cells #[.int .u64 a0, .int .u64 a1] 32)).alloc (.cells #[.int .u64 b0, .int .u64 b1] 32)).alloc (.cells #[.int .i64 0, .int .i64 0, .int .i64 0, .int .i64 0, .bool false, .slice none 0 0] 29)) := (((((Below.refl w.heap.size w).alloc (Nat.le_refl _) _).alloc (by simp <;> omega) _).alloc (by simp <;> omega) _).alloc (by simp <;> omega) _).alloc (by simp <;> omega) _
  obtain ⟨V0, hV0⟩ : ∃ V, (((((w.alloc (.cells #[.int .i64 (s 0), .int .i64 (s 1), .int .i64 (s 2), .int .i64 (s 3), .int .i64 (s 4), .int .i64 (s 5), .int .i64 (s 6), .int .i64 (s 7), .slice SA sn sc, .int .i64 (s 9), .int .i64 (s 10), .int .i64 (s 11), .int .i64 (s 12)] 25)).alloc (.cells #[.int .i64 p, .int .i64 d, .int .i64 md, .int .i64 le, .bool wa, .slice A n c] 29)).alloc (.cells #[.int .u64 a0, .int .u64 a1] 32)).alloc (.cells #[.int .u64 b0, .int .u64 b1] 32)).alloc (.cells #[.int .i64 0, .int .i64 0, .int .i64 0, .int .i64 0, .bool false, .slice none 0 0] 29)) = V := ⟨_, rfl⟩
  rw [hV0] at BS BC BU BD BQ BE ⊢
  have HS := Lib.hid BS
  have HC := Lib.hid BC
  have HU := Lib.hid BU
  have HD := Lib.hid BD
  have HQ := Lib.hid BQ
  have EE := Lib.hid BE
  have ne0_1 : w.heap.size ≠ w.heap.size + 1 := by omega
  have ne0_2 : w.heap.size ≠ w.heap.size + 1 + 1 := by omega
  have ne0_3 : w.heap.size ≠ w.heap.size + 1 + 1 + 1 := by omega
  have ne0_4 : w.heap.size ≠ w.heap.size + 1 + 1 + 1 + 1 := by omega
  have ne1_0 : w.heap.size + 1 ≠ w.heap.size := by omega
  have ne1_2 : w.heap.size + 1 ≠ w.heap.size + 1 + 1 := by omega
  have ne1_3 : w.heap.size + 1 ≠ w.heap.size + 1 + 1 + 1 := by omega
  have ne1_4 : w.heap.size + 1 ≠ w.heap.size + 1 + 1 + 1 + 1 := by omega
  have ne2_0 : w.heap.size + 1 + 1 ≠ w.heap.size := by omega
  have ne2_1 : w.heap.size + 1 + 1 ≠ w.heap.size + 1 := by omega
  have ne2_3 : w.heap.size + 1 + 1 ≠ w.heap.size + 1 + 1 + 1 := by omega
  have ne2_4 : w.heap.size + 1 + 1 ≠ w.heap.size + 1 + 1 + 1 + 1 := by omega
  have ne3_0 : w.heap.size + 1 + 1 + 1 ≠ w.heap.size := by omega
  have ne3_1 : w.heap.size + 1 + 1 + 1 ≠ w.heap.size + 1 := by omega
  have ne3_2 : w.heap.size + 1 + 1 + 1 ≠ w.heap.size + 1 + 1 := by omega
  have ne3_4 : w.heap.size + 1 + 1 + 1 ≠ w.heap.size + 1 + 1 + 1 + 1 := by omega
  have ne4_0 : w.heap.size + 1 + 1 + 1 + 1 ≠ w.heap.size := by omega
  have ne4_1 : w.heap.size + 1 + 1 + 1 + 1 ≠ w.heap.size + 1 := by omega
  have ne4_2 : w.heap.size + 1 + 1 + 1 + 1 ≠ w.heap.size + 1 + 1 := by omega
  have ne4_3 : w.heap.size + 1 + 1 + 1 + 1 ≠ w.heap.size + 1 + 1 + 1 := by omega
  clear hV0 BE BS BC BU BD BQ
  have kS0 : V0.cell? ⟨w.heap.size, 0, none⟩ = some (.int .i64 (s 0)) := HS.out.cell 0
  have kS1 : V0.cell? ⟨w.heap.size, 1, none⟩ = some (.int .i64 (s 1)) := HS.out.cell 1
  have kS2 : V0.cell? ⟨w.heap.size, 2, none⟩ = some (.int .i64 (s 2)) := HS.out.cell 2
  have kS3 : V0.cell? ⟨w.heap.size, 3, none⟩ = some (.int .i64 (s 3)) := HS.out.cell 3
  have kS4 : V0.cell? ⟨w.heap.size, 4, none⟩ = some (.int .i64 (s 4)) := HS.out.cell 4
  have kS5 : V0.cell? ⟨w.heap.size, 5, none⟩ = some (.int .i64 (s 5)) := HS.out.cell 5
  have kS6 : V0.cell? ⟨w.heap.size, 6, none⟩ = some (.int .i64 (s 6)) := HS.out.cell 6
  have kS7 : V0.cell? ⟨w.heap.size, 7, none⟩ = some (.int .i64 (s 7)) := HS.out.cell 7
  have kS8 : V0.cell? ⟨w.heap.size, 8, none⟩ = some (.slice SA sn sc) := HS.out.cell 8
  have kS9 : V0.cell? ⟨w.heap.size, 9, none⟩ = some (.int .i64 (s 9)) := HS.out.cell 9
  have kS10 : V0.cell? ⟨w.heap.size, 10, none⟩ = some (.int .i64 (s 10)) := HS.out.cell 10
  have kS11 : V0.cell? ⟨w.heap.size, 11, none⟩ = some (.int .i64 (s 11)) := HS.out.cell 11
  have kS12 : V0.cell? ⟨w.heap.size, 12, none⟩ = some (.int .i64 (s 12)) := HS.out.cell 12
  have kC0 : V0.cell? ⟨w.heap.size + 1, 0, none⟩ = some (.int .i64 p) := HC.out.cell 0
  have jC0 : V0.frozen? ⟨w.heap.size + 1, 0, none⟩ = false := HC.out.frozen 0
  have kC1 : V0.cell? ⟨w.heap.size + 1, 1, none⟩ = some (.int .i64 d) := HC.out.cell 1
  have jC1 : V0.frozen? ⟨w.heap.size + 1, 1, none⟩ = false := HC.out.frozen 1
  have kC2 : V0.cell? ⟨w.heap.size + 1, 2, none⟩ = some (.int .i64 md) := HC.out.cell 2
  have jC2 : V0.frozen? ⟨w.heap.size + 1, 2, none⟩ = false := HC.out.frozen 2
  have kC3 : V0.cell? ⟨w.heap.size + 1, 3, none⟩ = some (.int .i64 le) := HC.out.cell 3
  have jC3 : V0.frozen? ⟨w.heap.size + 1, 3, none⟩ = false := HC.out.frozen 3
  have kC4 : V0.cell? ⟨w.heap.size + 1, 4, none⟩ = some (.bool wa) := HC.out.cell 4
  have jC4 : V0.frozen? ⟨w.heap.size + 1, 4, none⟩ = false := HC.out.frozen 4
  have kC5 : V0.cell? ⟨w.heap.size + 1, 5, none⟩ = some (.slice A n c) := HC.out.cell 5
  have jC5 : V0.frozen? ⟨w.heap.size + 1, 5, none⟩ = false := HC.out.frozen 5
  have kU0 : V0.cell? ⟨w.heap.size + 1 + 1, 0, none⟩ = some (.int .u64 a0) := HU.out.cell 0
  have kU1 : V0.cell? ⟨w.heap.size + 1 + 1, 1, none⟩ = some (.int .u64 a1) := HU.out.cell 1
  have kD0 : V0.cell? ⟨w.heap.size + 1 + 1 + 1, 0, none⟩ = some (.int .u64 b0) := HD.out.cell 0
  have kD1 : V0.cell? ⟨w.heap.size + 1 + 1 + 1, 1, none⟩ = some (.int .u64 b1) := HD.out.cell 1
  have kQ0 : V0.cell? ⟨w.heap.size + 1 + 1 + 1 + 1, 0, none⟩ = some (.int .i64 0) := HQ.out.cell 0
  have jQ0 : V0.frozen? ⟨w.heap.size + 1 + 1 + 1 + 1, 0, none⟩ = false := HQ.out.frozen 0
  have kQ1 : V0.cell? ⟨w.heap.size + 1 + 1 + 1 + 1, 1, none⟩ = some (.int .i64 0) := HQ.out.cell 1
  have jQ1 : V0.frozen? ⟨w.heap.size + 1 + 1 + 1 + 1, 1, none⟩ = false := HQ.out.frozen 1
  have kQ2 : V0.cell? ⟨w.heap.size + 1 + 1 + 1 + 1, 2, none⟩ = some (.int .i64 0) := HQ.out.cell 2
  have jQ2 : V0.frozen? ⟨w.heap.size + 1 + 1 + 1 + 1, 2, none⟩ = false := HQ.out.frozen 2
  have kQ3 : V0.cell? ⟨w.heap.size + 1 + 1 + 1 + 1, 3, none⟩ = some (.int .i64 0) := HQ.out.cell 3
  have jQ3 : V0.frozen? ⟨w.heap.size + 1 + 1 + 1 + 1, 3, none⟩ = false := HQ.out.frozen 3
  have kQ4 : V0.cell? ⟨w.heap.size + 1 + 1 + 1 + 1, 4, none⟩ = some (.bool false) := HQ.out.cell 4
  have jQ4 : V0.frozen? ⟨w.heap.size + 1 + 1 + 1 + 1, 4, none⟩ = false := HQ.out.frozen 4
  have kQ5 : V0.cell? ⟨w.heap.size + 1 + 1 + 1 + 1, 5, none⟩ = some (.slice none 0 0) := HQ.out.cell 5
  have jQ5 : V0.frozen? ⟨w.heap.size + 1 + 1 + 1 + 1, 5, none⟩ = false := HQ.out.frozen 5
  refine (CL.out _ (HRd.out.kept EE.out)).mono ?_
  rintro e v1 ⟨A', c', rfl, hR', hA', hcc, hb⟩
  have HA' := Lib.hid (show ∀ a, A' = some a → w.heap.size + 1 + 1 + 1 + 1 < a.block from fun a ha => Nat.lt_of_lt_of_le HQ.out.lt (hA' a ha))
  have HN := Lib.hid hR'; have HC' := Lib.hid hcc
  clear hA' hR' hcc
  clear kS0 kS1 kS2 kS3 kS4 kS5 kS6 kS7 kS8 kS9 kS10 kS11 kS12 kC0 jC0 kC1 jC1 kC2 jC2 kC3 jC3 kC4 jC4 kC5 jC5 kU0 kU1 kD0 kD1 kQ0 jQ0 kQ1 jQ1 kQ2 jQ2 kQ3 jQ3 kQ4 jQ4 kQ5 jQ5
  have HS := Lib.hid (Blk.next (w := V0) HS.out hb)
  have HC := Lib.hid (Blk.next (w := V0) HC.out hb)
  have HU := Lib.hid (Blk.next (w := V0) HU.out hb)
  have HD := Lib.hid (Blk.next (w := V0) HD.out hb)
  have HQ := Lib.hid (Blk.next (w := V0) HQ.out hb)
  have EE := Lib.hid (EE.out.trans (hb.mono EE.out.size))
  clear hb
  have kS0 : v1.cell? ⟨w.heap.size, 0, none⟩ = some (.int .i64 (s 0)) := HS.out.cell 0
  have kS1 : v1.cell? ⟨w.heap.size, 1, none⟩ = some (.int .i64 (s 1)) := HS.out.cell 1
  have kS2 : v1.cell? ⟨w.heap.size, 2, none⟩ = some (.int .i64 (s 2)) := HS.out.cell 2
  have kS3 : v1.cell? ⟨w.heap.size, 3, none⟩ = some (.int .i64 (s 3)) := HS.out.cell 3
  have kS4 : v1.cell? ⟨w.heap.size, 4, none⟩ = some (.int .i64 (s 4)) := HS.out.cell 4
  have kS5 : v1.cell? ⟨w.heap.size, 5, none⟩ = some (.int .i64 (s 5)) := HS.out.cell 5
  have kS6 : v1.cell? ⟨w.heap.size, 6, none⟩ = some (.int .i64 (s 6)) := HS.out.cell 6
  have kS7 : v1.cell? ⟨w.heap.size, 7, none⟩ = some (.int .i64 (s 7)) := HS.out.cell 7
  have kS8 : v1.cell? ⟨w.heap.size, 8, none⟩ = some (.slice SA sn sc) := HS.out.cell 8
  have kS9 : v1.cell? ⟨w.heap.size, 9, none⟩ = some (.int .i64 (s 9)) := HS.out.cell 9
  have kS10 : v1.cell? ⟨w.heap.size, 10, none⟩ = some (.int .i64 (s 10)) := HS.out.cell 10
  have kS11 : v1.cell? ⟨w.heap.size, 11, none⟩ = some (.int .i64 (s 11)) := HS.out.cell 11
  have kS12 : v1.cell? ⟨w.heap.size, 12, none⟩ = some (.int .i64 (s 12)) := HS.out.cell 12
  have kC0 : v1.cell? ⟨w.heap.size + 1, 0, none⟩ = some (.int .i64 p) := HC.out.cell 0
  have jC0 : v1.frozen? ⟨w.heap.size + 1, 0, none⟩ = false := HC.out.frozen 0
  have kC1 : v1.cell? ⟨w.heap.size + 1, 1, none⟩ = some (.int .i64 d) := HC.out.cell 1
  have jC1 : v1.frozen? ⟨w.heap.size + 1, 1, none⟩ = false := HC.out.frozen 1
  have kC2 : v1.cell? ⟨w.heap.size + 1, 2, none⟩ = some (.int .i64 md) := HC.out.cell 2
  have jC2 : v1.frozen? ⟨w.heap.size + 1, 2, none⟩ = false := HC.out.frozen 2
  have kC3 : v1.cell? ⟨w.heap.size + 1, 3, none⟩ = some (.int .i64 le) := HC.out.cell 3
  have jC3 : v1.frozen? ⟨w.heap.size + 1, 3, none⟩ = false := HC.out.frozen 3
  have kC4 : v1.cell? ⟨w.heap.size + 1, 4, none⟩ = some (.bool wa) := HC.out.cell 4
  have jC4 : v1.frozen? ⟨w.heap.size + 1, 4, none⟩ = false := HC.out.frozen 4
  have kC5 : v1.cell? ⟨w.heap.size + 1, 5, none⟩ = some (.slice A n c) := HC.out.cell 5
  have jC5 : v1.frozen? ⟨w.heap.size + 1, 5, none⟩ = false := HC.out.frozen 5
  have kU0 : v1.cell? ⟨w.heap.size + 1 + 1, 0, none⟩ = some (.int .u64 a0) := HU.out.cell 0
  have kU1 : v1.cell? ⟨w.heap.size + 1 + 1, 1, none⟩ = some (.int .u64 a1) := HU.out.cell 1
  have kD0 : v1.cell? ⟨w.heap.size + 1 + 1 + 1, 0, none⟩ = some (.int .u64 b0) := HD.out.cell 0
  have kD1 : v1.cell? ⟨w.heap.size + 1 + 1 + 1, 1, none⟩ = some (.int .u64 b1) := HD.out.cell 1
  have kQ0 : v1.cell? ⟨w.heap.size + 1 + 1 + 1 + 1, 0, none⟩ = some (.int .i64 0) := HQ.out.cell 0
  have jQ0 : v1.frozen? ⟨w.heap.size + 1 + 1 + 1 + 1, 0, none⟩ = false := HQ.out.frozen 0
  have kQ1 : v1.cell? ⟨w.heap.size + 1 + 1 + 1 + 1, 1, none⟩ = some (.int .i64 0) := HQ.out.cell 1
  have jQ1 : v1.frozen? ⟨w.heap.size + 1 + 1 + 1 + 1, 1, none⟩ = false := HQ.out.frozen 1
  have kQ2 : v1.cell? ⟨w.heap.size + 1 + 1 + 1 + 1, 2, none⟩ = some (.int .i64 0) := HQ.out.cell 2
  have jQ2 : v1.frozen? ⟨w.heap.size + 1 + 1 + 1 + 1, 2, none⟩ = false := HQ.out.frozen 2
  have kQ3 : v1.cell? ⟨w.heap.size + 1 + 1 + 1 + 1, 3, none⟩ = some (.int .i64 0) := HQ.out.cell 3
  have jQ3 : v1.frozen? ⟨w.heap.size + 1 + 1 + 1 + 1, 3, none⟩ = false := HQ.out.frozen 3
  have kQ4 : v1.cell? ⟨w.heap.size + 1 + 1 + 1 + 1, 4, none⟩ = some (.bool false) := HQ.out.cell 4
  have jQ4 : v1.frozen? ⟨w.heap.size + 1 + 1 + 1 + 1, 4, none⟩ = false := HQ.out.frozen 4
  have kQ5 : v1.cell? ⟨w.heap.size + 1 + 1 + 1 + 1, 5, none⟩ = some (.slice none 0 0) := HQ.out.cell 5
  have jQ5 : v1.frozen? ⟨w.heap.size + 1 + 1 + 1 + 1, 5, none⟩ = false := HQ.out.frozen 5
  go_wp2_with fail
  clear kS0 kS1 kS2 kS3 kS4 kS5 kS6 kS7 kS8 kS9 kS10 kS11 kS12 kC0 jC0 kC1 jC1 kC2 jC2 kC3 jC3 kC4 jC4 kC5 jC5 kU0 kU1 kD0 kD1 kQ0 jQ0 kQ1 jQ1 kQ2 jQ2 kQ3 jQ3 kQ4 jQ4 kQ5 jQ5
  have GS : Blk (v1.setCell ⟨w.heap.size + 1, 5, none⟩ (.slice A' n c')) (w.heap.size) 25 #[.int .i64 (s 0), .int .i64 (s 1), .int .i64 (s 2), .int .i64 (s 3), .int .i64 (s 4), .int .i64 (s 5), .int .i64 (s 6), .int .i64 (s 7), .slice SA sn sc, .int .i64 (s 9), .int .i64 (s 10), .int .i64 (s 11), .int .i64 (s 12)] := (HS.out.far (p := ⟨w.heap.size + 1, 5, none⟩) ne0_1 (.slice A' n c'))
  have GC : Blk (v1.setCell ⟨w.heap.size + 1, 5, none⟩ (.slice A' n c')) (w.heap.size + 1) 29 #[.int .i64 p, .int .i64 d, .int .i64 md, .int .i64 le, .bool wa, .slice A' n c'] := (HC.out.set 5 (.slice A' n c'))
  have GU : Blk (v1.setCell ⟨w.heap.size + 1, 5, none⟩ (.slice A' n c')) (w.heap.size + 1 + 1) 32 #[.int .u64 a0, .int .u64 a1] := (HU.out.far (p := ⟨w.heap.size + 1, 5, none⟩) ne2_1 (.slice A' n c'))
  have GD : Blk (v1.setCell ⟨w.heap.size + 1, 5, none⟩ (.slice A' n c')) (w.heap.size + 1 + 1 + 1) 32 #[.int .u64 b0, .int .u64 b1] := (HD.out.far (p := ⟨w.heap.size + 1, 5, none⟩) ne3_1 (.slice A' n c'))
  have GQ : Blk (v1.setCell ⟨w.heap.size + 1, 5, none⟩ (.slice A' n c')) (w.heap.size + 1 + 1 + 1 + 1) 29 #[.int .i64 0, .int .i64 0, .int .i64 0, .int .i64 0, .bool false, .slice none 0 0] := (HQ.out.far (p := ⟨w.heap.size + 1, 5, none⟩) ne4_1 (.slice A' n c'))
  have GE : Below w.heap.size w (v1.setCell ⟨w.heap.size + 1, 5, none⟩ (.slice A' n c')) := (EE.out.setCell (p := ⟨w.heap.size + 1, 5, none⟩) (by show w.heap.size ≤ w.heap.size + 1; omega) (.slice A' n c'))
  have GHN : RdZ (v1.setCell ⟨w.heap.size + 1, 5, none⟩ (.slice A' n c')) 2 A' n z := (rdZ_far HN.out (p := ⟨w.heap.size + 1, 5, none⟩) (fun a ha => by have := HA'.out a ha; show a.block ≠ w.heap.size + 1; omega) (.slice A' n c'))
  obtain ⟨v2, hv2⟩ : ∃ V, (v1.setCell ⟨w.heap.size + 1, 5, none⟩ (.slice A' n c')) = V := ⟨_, rfl⟩
  rw [hv2] at GS GC GU GD GQ GHN GE ⊢
  have HS := Lib.hid GS
  have HC := Lib.hid GC
  have HU := Lib.hid GU
  have HD := Lib.hid GD
  have HQ := Lib.hid GQ
  have HN := Lib.hid GHN
  have EE := Lib.hid GE
  clear hv2 GS GC GU GD GQ GHN GE
  have kS0 : v2.cell? ⟨w.heap.size, 0, none⟩ = some (.int .i64 (s 0)) := HS.out.cell 0
  have kS1 : v2.cell? ⟨w.heap.size, 1, none⟩ = some (.int .i64 (s 1)) := HS.out.cell 1
  have kS2 : v2.cell? ⟨w.heap.size, 2, none⟩ = some (.int .i64 (s 2)) := HS.out.cell 2
  have kS3 : v2.cell? ⟨w.heap.size, 3, none⟩ = some (.int .i64 (s 3)) := HS.out.cell 3
  have kS4 : v2.cell? ⟨w.heap.size, 4, none⟩ = some (.int .i64 (s 4)) := HS.out.cell 4
  have kS5 : v2.cell? ⟨w.heap.size, 5, none⟩ = some (.int .i64 (s 5)) := HS.out.cell 5
  have kS6 : v2.cell? ⟨w.heap.size, 6, none⟩ = some (.int .i64 (s 6)) := HS.out.cell 6
  have kS7 : v2.cell? ⟨w.heap.size, 7, none⟩ = some (.int .i64 (s 7)) := HS.out.cell 7
  have kS8 : v2.cell? ⟨w.heap.size, 8, none⟩ = some (.slice SA sn sc) := HS.out.cell 8
  have kS9 : v2.cell? ⟨w.heap.size, 9, none⟩ = some (.int .i64 (s 9)) := HS.out.cell 9
  have kS10 : v2.cell? ⟨w.heap.size, 10, none⟩ = some (.int .i64 (s 10)) := HS.out.cell 10
  have kS11 : v2.cell? ⟨w.heap.size, 11, none⟩ = some (.int .i64 (s 11)) := HS.out.cell 11
  have kS12 : v2.cell? ⟨w.heap.size, 12, none⟩ = some (.int .i64 (s 12)) := HS.out.cell 12
  have kC0 : v2.cell? ⟨w.heap.size + 1, 0, none⟩ = some (.int .i64 p) := HC.out.cell 0
  have jC0 : v2.frozen? ⟨w.heap.size + 1, 0, none⟩ = false := HC.out.frozen 0
  have kC1 : v2.cell? ⟨w.heap.size + 1, 1, none⟩ = some (.int .i64 d) := HC.out.cell 1
  have jC1 : v2.frozen? ⟨w.heap.size + 1, 1, none⟩ = false := HC.out.frozen 1
  have kC2 : v2.cell? ⟨w.heap.size + 1, 2, none⟩ = some (.int .i64 md) := HC.out.cell 2
  have jC2 : v2.frozen? ⟨w.heap.size + 1, 2, none⟩ = false := HC.out.frozen 2
  have kC3 : v2.cell? ⟨w.heap.size + 1, 3, none⟩ = some (.int .i64 le) := HC.out.cell 3
  have jC3 : v2.frozen? ⟨w.heap.size + 1, 3, none⟩ = false := HC.out.frozen 3
  have kC4 : v2.cell? ⟨w.heap.size + 1, 4, none⟩ = some (.bool wa) := HC.out.cell 4
  have jC4 : v2.frozen? ⟨w.heap.size + 1, 4, none⟩ = false := HC.out.frozen 4
  have kC5 : v2.cell? ⟨w.heap.size + 1, 5, none⟩ = some (.slice A' n c') := HC.out.cell 5
  have jC5 : v2.frozen? ⟨w.heap.size + 1, 5, none⟩ = false := HC.out.frozen 5
  have kU0 : v2.cell? ⟨w.heap.size + 1 + 1, 0, none⟩ = some (.int .u64 a0) := HU.out.cell 0
  have kU1 : v2.cell? ⟨w.heap.size + 1 + 1, 1, none⟩ = some (.int .u64 a1) := HU.out.cell 1
  have kD0 : v2.cell? ⟨w.heap.size + 1 + 1 + 1, 0, none⟩ = some (.int .u64 b0) := HD.out.cell 0
  have kD1 : v2.cell? ⟨w.heap.size + 1 + 1 + 1, 1, none⟩ = some (.int .u64 b1) := HD.out.cell 1
  have kQ0 : v2.cell? ⟨w.heap.size + 1 + 1 + 1 + 1, 0, none⟩ = some (.int .i64 0) := HQ.out.cell 0
  have jQ0 : v2.frozen? ⟨w.heap.size + 1 + 1 + 1 + 1, 0, none⟩ = false := HQ.out.frozen 0
  have kQ1 : v2.cell? ⟨w.heap.size + 1 + 1 + 1 + 1, 1, none⟩ = some (.int .i64 0) := HQ.out.cell 1
  have jQ1 : v2.frozen? ⟨w.heap.size + 1 + 1 + 1 + 1, 1, none⟩ = false := HQ.out.frozen 1
  have kQ2 : v2.cell? ⟨w.heap.size + 1 + 1 + 1 + 1, 2, none⟩ = some (.int .i64 0) := HQ.out.cell 2
  have jQ2 : v2.frozen? ⟨w.heap.size + 1 + 1 + 1 + 1, 2, none⟩ = false := HQ.out.frozen 2
  have kQ3 : v2.cell? ⟨w.heap.size + 1 + 1 + 1 + 1, 3, none⟩ = some (.int .i64 0) := HQ.out.cell 3
  have jQ3 : v2.frozen? ⟨w.heap.size + 1 + 1 + 1 + 1, 3, none⟩ = false := HQ.out.frozen 3
  have kQ4 : v2.cell? ⟨w.heap.size + 1 + 1 + 1 + 1, 4, none⟩ = some (.bool false) := HQ.out.cell 4
  have jQ4 : v2.frozen? ⟨w.heap.size + 1 + 1 + 1 + 1, 4, none⟩ = false := HQ.out.frozen 4
  have kQ5 : v2.cell? ⟨w.heap.size + 1 + 1 + 1 + 1, 5, none⟩ = some (.slice none 0 0) := HQ.out.cell 5
  have jQ5 : v2.frozen? ⟨w.heap.size + 1 + 1 + 1 + 1, 5, none⟩ = false := HQ.out.frozen 5
  refine (FL.out _).mono ?_
  rintro e v3 ⟨rfl, kk, hk⟩
  have hb : Below v2.heap.size v2 v3 := by rw [hk]; exact below_drewN (Below.refl _ _) kk
  clear hk
  clear kS0 kS1 kS2 kS3 kS4 kS5 kS6 kS7 kS8 kS9 kS10 kS11 kS12 kC0 jC0 kC1 jC1 kC2 jC2 kC3 jC3 kC4 jC4 kC5 jC5 kU0 kU1 kD0 kD1 kQ0 jQ0 kQ1 jQ1 kQ2 jQ2 kQ3 jQ3 kQ4 jQ4 kQ5 jQ5
  have HS := Lib.hid (Blk.next (w := v2) HS.out hb)
  have HC := Lib.hid (Blk.next (w := v2) HC.out hb)
  have HU := Lib.hid (Blk.next (w := v2) HU.out hb)
  have HD := Lib.hid (Blk.next (w := v2) HD.out hb)
  have HQ := Lib.hid (Blk.next (w := v2) HQ.out hb)
  have HN : Hid (RdZ v3 2 A' n z) := Lib.hid (RdZ.kept (w := v2) HN.out hb)
  have EE := Lib.hid (EE.out.trans (hb.mono EE.out.size))
  clear hb
  have kS0 : v3.cell? ⟨w.heap.size, 0, none⟩ = some (.int .i64 (s 0)) := HS.out.cell 0
  have kS1 : v3.cell? ⟨w.heap.size, 1, none⟩ = some (.int .i64 (s 1)) := HS.out.cell 1
  have kS2 : v3.cell? ⟨w.heap.size, 2, none⟩ = some (.int .i64 (s 2)) := HS.out.cell 2
  have kS3 : v3.cell? ⟨w.heap.size, 3, none⟩ = some (.int .i64 (s 3)) := HS.out.cell 3
  have kS4 : v3.cell? ⟨w.heap.size, 4, none⟩ = some (.int .i64 (s 4)) := HS.out.cell 4
  have kS5 : v3.cell? ⟨w.heap.size, 5, none⟩ = some (.int .i64 (s 5)) := HS.out.cell 5
  have kS6 : v3.cell? ⟨w.heap.size, 6, none⟩ = some (.int .i64 (s 6)) := HS.out.cell 6
  have kS7 : v3.cell? ⟨w.heap.size, 7, none⟩ = some (.int .i64 (s 7)) := HS.out.cell 7
  have kS8 : v3.cell? ⟨w.heap.size, 8, none⟩ = some (.slice SA sn sc) := HS.out.cell 8
  have kS9 : v3.cell? ⟨w.heap.size, 9, none⟩ = some (.int .i64 (s 9)) := HS.out.cell 9
  have kS10 : v3.cell? ⟨w.heap.size, 10, none⟩ = some (.int .i64 (s 10)) := HS.out.cell 10
  have kS11 : v3.cell? ⟨w.heap.size, 11, none⟩ = some (.int .i64 (s 11)) := HS.out.cell 11
  have kS12 : v3.cell? ⟨w.heap.size, 12, none⟩ = some (.int .i64 (s 12)) := HS.out.cell 12
  have kC0 : v3.cell? ⟨w.heap.size + 1, 0, none⟩ = some (.int .i64 p) := HC.out.cell 0
  have jC0 : v3.frozen? ⟨w.heap.size + 1, 0, none⟩ = false := HC.out.frozen 0
  have kC1 : v3.cell? ⟨w.heap.size + 1, 1, none⟩ = some (.int .i64 d) := HC.out.cell 1
  have jC1 : v3.frozen? ⟨w.heap.size + 1, 1, none⟩ = false := HC.out.frozen 1
  have kC2 : v3.cell? ⟨w.heap.size + 1, 2, none⟩ = some (.int .i64 md) := HC.out.cell 2
  have jC2 : v3.frozen? ⟨w.heap.size + 1, 2, none⟩ = false := HC.out.frozen 2
  have kC3 : v3.cell? ⟨w.heap.size + 1, 3, none⟩ = some (.int .i64 le) := HC.out.cell 3
  have jC3 : v3.frozen? ⟨w.heap.size + 1, 3, none⟩ = false := HC.out.frozen 3
  have kC4 : v3.cell? ⟨w.heap.size + 1, 4, none⟩ = some (.bool wa) := HC.out.cell 4
  have jC4 : v3.frozen? ⟨w.heap.size + 1, 4, none⟩ = false := HC.out.frozen 4
  have kC5 : v3.cell? ⟨w.heap.size + 1, 5, none⟩ = some (.slice A' n c') := HC.out.cell 5
  have jC5 : v3.frozen? ⟨w.heap.size + 1, 5, none⟩ = false := HC.out.frozen 5
  have kU0 : v3.cell? ⟨w.heap.size + 1 + 1, 0, none⟩ = some (.int .u64 a0) := HU.out.cell 0
  have kU1 : v3.cell? ⟨w.heap.size + 1 + 1, 1, none⟩ = some (.int .u64 a1) := HU.out.cell 1
  have kD0 : v3.cell? ⟨w.heap.size + 1 + 1 + 1, 0, none⟩ = some (.int .u64 b0) := HD.out.cell 0
  have kD1 : v3.cell? ⟨w.heap.size + 1 + 1 + 1, 1, none⟩ = some (.int .u64 b1) := HD.out.cell 1
  have kQ0 : v3.cell? ⟨w.heap.size + 1 + 1 + 1 + 1, 0, none⟩ = some (.int .i64 0) := HQ.out.cell 0
  have jQ0 : v3.frozen? ⟨w.heap.size + 1 + 1 + 1 + 1, 0, none⟩ = false := HQ.out.frozen 0
  have kQ1 : v3.cell? ⟨w.heap.size + 1 + 1 + 1 + 1, 1, none⟩ = some (.int .i64 0) := HQ.out.cell 1
  have jQ1 : v3.frozen? ⟨w.heap.size + 1 + 1 + 1 + 1, 1, none⟩ = false := HQ.out.frozen 1
  have kQ2 : v3.cell? ⟨w.heap.size + 1 + 1 + 1 + 1, 2, none⟩ = some (.int .i64 0) := HQ.out.cell 2
  have jQ2 : v3.frozen? ⟨w.heap.size + 1 + 1 + 1 + 1, 2, none⟩ = false := HQ.out.frozen 2
  have kQ3 : v3.cell? ⟨w.heap.size + 1 + 1 + 1 + 1, 3, none⟩ = some (.int .i64 0) := HQ.out.cell 3
  have jQ3 : v3.frozen? ⟨w.heap.size + 1 + 1 + 1 + 1, 3, none⟩ = false := HQ.out.frozen 3
  have kQ4 : v3.cell? ⟨w.heap.size + 1 + 1 + 1 + 1, 4, none⟩ = some (.bool false) := HQ.out.cell 4
  have jQ4 : v3.frozen? ⟨w.heap.size + 1 + 1 + 1 + 1, 4, none⟩ = false := HQ.out.frozen 4
  have kQ5 : v3.cell? ⟨w.heap.size + 1 + 1 + 1 + 1, 5, none⟩ = some (.slice none 0 0) := HQ.out.cell 5
  have jQ5 : v3.frozen? ⟨w.heap.size + 1 + 1 + 1 + 1, 5, none⟩ = false := HQ.out.frozen 5
  go_wp2_with fail
  refine (SE.out _ _ _ (HN.out)).mono ?_
  rintro e v4 ⟨rfl, hb⟩
  clear kS0 kS1 kS2 kS3 kS4 kS5 kS6 kS7 kS8 kS9 kS10 kS11 kS12 kC0 jC0 kC1 jC1 kC2 jC2 kC3 jC3 kC4 jC4 kC5 jC5 kU0 kU1 kD0 kD1 kQ0 jQ0 kQ1 jQ1 kQ2 jQ2 kQ3 jQ3 kQ4 jQ4 kQ5 jQ5
  have HS := Lib.hid (Blk.next (w := v3) HS.out hb)
  have HC := Lib.hid (Blk.next (w := v3) HC.out hb)
  have HU := Lib.hid (Blk.next (w := v3) HU.out hb)
  have HD := Lib.hid (Blk.next (w := v3) HD.out hb)
  have HQ := Lib.hid (Blk.next (w := v3) HQ.out hb)
  have HN : Hid (RdZ v4 2 A' n z) := Lib.hid (RdZ.kept (w := v3) HN.out hb)
  have EE := Lib.hid (EE.out.trans (hb.mono EE.out.size))
  clear hb
  have kS0 : v4.cell? ⟨w.heap.size, 0, none⟩ = some (.int .i64 (s 0)) := HS.out.cell 0
  have kS1 : v4.cell? ⟨w.heap.size, 1, none⟩ = some (.int .i64 (s 1)) := HS.out.cell 1
  have kS2 : v4.cell? ⟨w.heap.size, 2, none⟩ = some (.int .i64 (s 2)) := HS.out.cell 2
  have kS3 : v4.cell? ⟨w.heap.size, 3, none⟩ = some (.int .i64 (s 3)) := HS.out.cell 3
  have kS4 : v4.cell? ⟨w.heap.size, 4, none⟩ = some (.int .i64 (s 4)) := HS.out.cell 4
  have kS5 : v4.cell? ⟨w.heap.size, 5, none⟩ = some (.int .i64 (s 5)) := HS.out.cell 5
  have kS6 : v4.cell? ⟨w.heap.size, 6, none⟩ = some (.int .i64 (s 6)) := HS.out.cell 6
  have kS7 : v4.cell? ⟨w.heap.size, 7, none⟩ = some (.int .i64 (s 7)) := HS.out.cell 7
  have kS8 : v4.cell? ⟨w.heap.size, 8, none⟩ = some (.slice SA sn sc) := HS.out.cell 8
  have kS9 : v4.cell? ⟨w.heap.size, 9, none⟩ = some (.int .i64 (s 9)) := HS.out.cell 9
  have kS10 : v4.cell? ⟨w.heap.size, 10, none⟩ = some (.int .i64 (s 10)) := HS.out.cell 10
  have kS11 : v4.cell? ⟨w.heap.size, 11, none⟩ = some (.int .i64 (s 11)) := HS.out.cell 11
  have kS12 : v4.cell? ⟨w.heap.size, 12, none⟩ = some (.int .i64 (s 12)) := HS.out.cell 12
  have kC0 : v4.cell? ⟨w.heap.size + 1, 0, none⟩ = some (.int .i64 p) := HC.out.cell 0
  have jC0 : v4.frozen? ⟨w.heap.size + 1, 0, none⟩ = false := HC.out.frozen 0
  have kC1 : v4.cell? ⟨w.heap.size + 1, 1, none⟩ = some (.int .i64 d) := HC.out.cell 1
  have jC1 : v4.frozen? ⟨w.heap.size + 1, 1, none⟩ = false := HC.out.frozen 1
  have kC2 : v4.cell? ⟨w.heap.size + 1, 2, none⟩ = some (.int .i64 md) := HC.out.cell 2
  have jC2 : v4.frozen? ⟨w.heap.size + 1, 2, none⟩ = false := HC.out.frozen 2
  have kC3 : v4.cell? ⟨w.heap.size + 1, 3, none⟩ = some (.int .i64 le) := HC.out.cell 3
  have jC3 : v4.frozen? ⟨w.heap.size + 1, 3, none⟩ = false := HC.out.frozen 3
  have kC4 : v4.cell? ⟨w.heap.size + 1, 4, none⟩ = some (.bool wa) := HC.out.cell 4
  have jC4 : v4.frozen? ⟨w.heap.size + 1, 4, none⟩ = false := HC.out.frozen 4
  have kC5 : v4.cell? ⟨w.heap.size + 1, 5, none⟩ = some (.slice A' n c') := HC.out.cell 5
  have jC5 : v4.frozen? ⟨w.heap.size + 1, 5, none⟩ = false := HC.out.frozen 5
  have kU0 : v4.cell? ⟨w.heap.size + 1 + 1, 0, none⟩ = some (.int .u64 a0) := HU.out.cell 0
  have kU1 : v4.cell? ⟨w.heap.size + 1 + 1, 1, none⟩ = some (.int .u64 a1) := HU.out.cell 1
  have kD0 : v4.cell? ⟨w.heap.size + 1 + 1 + 1, 0, none⟩ = some (.int .u64 b0) := HD.out.cell 0
  have kD1 : v4.cell? ⟨w.heap.size + 1 + 1 + 1, 1, none⟩ = some (.int .u64 b1) := HD.out.cell 1
  have kQ0 : v4.cell? ⟨w.heap.size + 1 + 1 + 1 + 1, 0, none⟩ = some (.int .i64 0) := HQ.out.cell 0
  have jQ0 : v4.frozen? ⟨w.heap.size + 1 + 1 + 1 + 1, 0, none⟩ = false := HQ.out.frozen 0
  have kQ1 : v4.cell? ⟨w.heap.size + 1 + 1 + 1 + 1, 1, none⟩ = some (.int .i64 0) := HQ.out.cell 1
  have jQ1 : v4.frozen? ⟨w.heap.size + 1 + 1 + 1 + 1, 1, none⟩ = false := HQ.out.frozen 1
  have kQ2 : v4.cell? ⟨w.heap.size + 1 + 1 + 1 + 1, 2, none⟩ = some (.int .i64 0) := HQ.out.cell 2
  have jQ2 : v4.frozen? ⟨w.heap.size + 1 + 1 + 1 + 1, 2, none⟩ = false := HQ.out.frozen 2
  have kQ3 : v4.cell? ⟨w.heap.size + 1 + 1 + 1 + 1, 3, none⟩ = some (.int .i64 0) := HQ.out.cell 3
  have jQ3 : v4.frozen? ⟨w.heap.size + 1 + 1 + 1 + 1, 3, none⟩ = false := HQ.out.frozen 3
  have kQ4 : v4.cell? ⟨w.heap.size + 1 + 1 + 1 + 1, 4, none⟩ = some (.bool false) := HQ.out.cell 4
  have jQ4 : v4.frozen? ⟨w.heap.size + 1 + 1 + 1 + 1, 4, none⟩ = false := HQ.out.frozen 4
  have kQ5 : v4.cell? ⟨w.heap.size + 1 + 1 + 1 + 1, 5, none⟩ = some (.slice none 0 0) := HQ.out.cell 5
  have jQ5 : v4.frozen? ⟨w.heap.size + 1 + 1 + 1 + 1, 5, none⟩ = false := HQ.out.frozen 5
  have lS := HS.out.lt
  have lC := HC.out.lt
  have lU := HU.out.lt
  have lD := HD.out.lt
  have lQ := HQ.out.lt
  go_wp2_with fail
  clear kS0 kS1 kS2 kS3 kS4 kS5 kS6 kS7 kS8 kS9 kS10 kS11 kS12 kC0 jC0 kC1 jC1 kC2 jC2 kC3 jC3 kC4 jC4 kC5 jC5 kU0 kU1 kD0 kD1 kQ0 jQ0 kQ1 jQ1 kQ2 jQ2 kQ3 jQ3 kQ4 jQ4 kQ5 jQ5 lS lC lU lD lQ
  have GS : Blk (v4.alloc (.cells #[.int .u64 t0, .int .u64 t1, .int .u64 u0, .int .u64 u1, .int .u64 l0, .int .u64 l1] 56)) (w.heap.size) 25 #[.int .i64 (s 0), .int .i64 (s 1), .int .i64 (s 2), .int .i64 (s 3), .int .i64 (s 4), .int .i64 (s 5), .int .i64 (s 6), .int .i64 (s 7), .slice SA sn sc, .int .i64 (s 9), .int .i64 (s 10), .int .i64 (s 11), .int .i64 (s 12)] := HS.out.alloc (.cells #[.int .u64 t0, .int .u64 t1, .int .u64 u0, .int .u64 u1, .int .u64 l0, .int .u64 l1] 56)
  have GC : Blk (v4.alloc (.cells #[.int .u64 t0, .int .u64 t1, .int .u64 u0, .int .u64 u1, .int .u64 l0, .int .u64 l1] 56)) (w.heap.size + 1) 29 #[.int .i64 p, .int .i64 d, .int .i64 md, .int .i64 le, .bool wa, .slice A' n c'] := HC.out.alloc (.cells #[.int .u64 t0, .int .u64 t1, .int .u64 u0, .int .u64 u1, .int .u64 l0, .int .u64 l1] 56)
  have GU : Blk (v4.alloc (.cells #[.int .u64 t0, .int .u64 t1, .int .u64 u0, .int .u64 u1, .int .u64 l0, .int .u64 l1] 56)) (w.heap.size + 1 + 1) 32 #[.int .u64 a0, .int .u64 a1] := HU.out.alloc (.cells #[.int .u64 t0, .int .u64 t1, .int .u64 u0, .int .u64 u1, .int .u64 l0, .int .u64 l1] 56)
  have GD : Blk (v4.alloc (.cells #[.int .u64 t0, .int .u64 t1, .int .u64 u0, .int .u64 u1, .int .u64 l0, .int .u64 l1] 56)) (w.heap.size + 1 + 1 + 1) 32 #[.int .u64 b0, .int .u64 b1] := HD.out.alloc (.cells #[.int .u64 t0, .int .u64 t1, .int .u64 u0, .int .u64 u1, .int .u64 l0, .int .u64 l1] 56)
  have GQ : Blk (v4.alloc (.cells #[.int .u64 t0, .int .u64 t1, .int .u64 u0, .int .u64 u1, .int .u64 l0, .int .u64 l1] 56)) (w.heap.size + 1 + 1 + 1 + 1) 29 #[.int .i64 0, .int .i64 0, .int .i64 0, .int .i64 0, .bool false, .slice none 0 0] := HQ.out.alloc (.cells #[.int .u64 t0, .int .u64 t1, .int .u64 u0, .int .u64 u1, .int .u64 l0, .int .u64 l1] 56)
  have GW : Blk (v4.alloc (.cells #[.int .u64 t0, .int .u64 t1, .int .u64 u0, .int .u64 u1, .int .u64 l0, .int .u64 l1] 56)) (v4.heap.size) 56 #[.int .u64 t0, .int .u64 t1, .int .u64 u0, .int .u64 u1, .int .u64 l0, .int .u64 l1] := Blk.new v4 _ _
  have GE : Below w.heap.size w (v4.alloc (.cells #[.int .u64 t0, .int .u64 t1, .int .u64 u0, .int .u64 u1, .int .u64 l0, .int .u64 l1] 56)) := EE.out.alloc EE.out.size (.cells #[.int .u64 t0, .int .u64 t1, .int .u64 u0, .int .u64 u1, .int .u64 l0, .int .u64 l1] 56)
  have GHN : RdZ (v4.alloc (.cells #[.int .u64 t0, .int .u64 t1, .int .u64 u0, .int .u64 u1, .int .u64 l0, .int .u64 l1] 56)) 2 A' n z := RdZ.kept (w := v4) HN.out ((Below.refl _ _).alloc (Nat.le_refl _) (.cells #[.int .u64 t0, .int .u64 t1, .int .u64 u0, .int .u64 u1, .int .u64 l0, .int .u64 l1] 56))
  obtain ⟨gw, hgw⟩ : ∃ g, v4.heap.size = g := ⟨_, rfl⟩
  have ne5_0 : gw ≠ w.heap.size := by have := HS.out.lt; omega
  have ne0_5 : w.heap.size ≠ gw := by have := HS.out.lt; omega
  have ne5_1 : gw ≠ w.heap.size + 1 := by have := HC.out.lt; omega
  have ne1_5 : w.heap.size + 1 ≠ gw := by have := HC.out.lt; omega
  have ne5_2 : gw ≠ w.heap.size + 1 + 1 := by have := HU.out.lt; omega
  have ne2_5 : w.heap.size + 1 + 1 ≠ gw := by have := HU.out.lt; omega
  have ne5_3 : gw ≠ w.heap.size + 1 + 1 + 1 := by have := HD.out.lt; omega
  have ne3_5 : w.heap.size + 1 + 1 + 1 ≠ gw := by have := HD.out.lt; omega
  have ne5_4 : gw ≠ w.heap.size + 1 + 1 + 1 + 1 := by have := HQ.out.lt; omega
  have ne4_5 : w.heap.size + 1 + 1 + 1 + 1 ≠ gw := by have := HQ.out.lt; omega
  have gegw : w.heap.size ≤ gw := by have := EE.out.size; omega
  rw [hgw] at GW ⊢
  clear hgw
  obtain ⟨v5, hv5⟩ : ∃ V, (v4.alloc (.cells #[.int .u64 t0, .int .u64 t1, .int .u64 u0, .int .u64 u1, .int .u64 l0, .int .u64 l1] 56)) = V := ⟨_, rfl⟩
  rw [hv5] at GS GC GU GD GQ GW GHN GE ⊢
  have HS := Lib.hid GS
  have HC := Lib.hid GC
  have HU := Lib.hid GU
  have HD := Lib.hid GD
  have HQ := Lib.hid GQ
  have HW := Lib.hid GW
  have HN := Lib.hid GHN
  have EE := Lib.hid GE
  clear hv5 GS GC GU GD GQ GW GHN GE
  have kS0 : v5.cell? ⟨w.heap.size, 0, none⟩ = some (.int .i64 (s 0)) := HS.out.cell 0
  have kS1 : v5.cell? ⟨w.heap.size, 1, none⟩ = some (.int .i64 (s 1)) := HS.out.cell 1
  have kS2 : v5.cell? ⟨w.heap.size, 2, none⟩ = some (.int .i64 (s 2)) := HS.out.cell 2
  have kS3 : v5.cell? ⟨w.heap.size, 3, none⟩ = some (.int .i64 (s 3)) := HS.out.cell 3
  have kS4 : v5.cell? ⟨w.heap.size, 4, none⟩ = some (.int .i64 (s 4)) := HS.out.cell 4
  have kS5 : v5.cell? ⟨w.heap.size, 5, none⟩ = some (.int .i64 (s 5)) := HS.out.cell 5
  have kS6 : v5.cell? ⟨w.heap.size, 6, none⟩ = some (.int .i64 (s 6)) := HS.out.cell 6
  have kS7 : v5.cell? ⟨w.heap.size, 7, none⟩ = some (.int .i64 (s 7)) := HS.out.cell 7
  have kS8 : v5.cell? ⟨w.heap.size, 8, none⟩ = some (.slice SA sn sc) := HS.out.cell 8
  have kS9 : v5.cell? ⟨w.heap.size, 9, none⟩ = some (.int .i64 (s 9)) := HS.out.cell 9
  have kS10 : v5.cell? ⟨w.heap.size, 10, none⟩ = some (.int .i64 (s 10)) := HS.out.cell 10
  have kS11 : v5.cell? ⟨w.heap.size, 11, none⟩ = some (.int .i64 (s 11)) := HS.out.cell 11
  have kS12 : v5.cell? ⟨w.heap.size, 12, none⟩ = some (.int .i64 (s 12)) := HS.out.cell 12
  have kC0 : v5.cell? ⟨w.heap.size + 1, 0, none⟩ = some (.int .i64 p) := HC.out.cell 0
  have jC0 : v5.frozen? ⟨w.heap.size + 1, 0, none⟩ = false := HC.out.frozen 0
  have kC1 : v5.cell? ⟨w.heap.size + 1, 1, none⟩ = some (.int .i64 d) := HC.out.cell 1
  have jC1 : v5.frozen? ⟨w.heap.size + 1, 1, none⟩ = false := HC.out.frozen 1
  have kC2 : v5.cell? ⟨w.heap.size + 1, 2, none⟩ = some (.int .i64 md) := HC.out.cell 2
  have jC2 : v5.frozen? ⟨w.heap.size + 1, 2, none⟩ = false := HC.out.frozen 2
  have kC3 : v5.cell? ⟨w.heap.size + 1, 3, none⟩ = some (.int .i64 le) := HC.out.cell 3
  have jC3 : v5.frozen? ⟨w.heap.size + 1, 3, none⟩ = false := HC.out.frozen 3
  have kC4 : v5.cell? ⟨w.heap.size + 1, 4, none⟩ = some (.bool wa) := HC.out.cell 4
  have jC4 : v5.frozen? ⟨w.heap.size + 1, 4, none⟩ = false := HC.out.frozen 4
  have kC5 : v5.cell? ⟨w.heap.size + 1, 5, none⟩ = some (.slice A' n c') := HC.out.cell 5
  have jC5 : v5.frozen? ⟨w.heap.size + 1, 5, none⟩ = false := HC.out.frozen 5
  have kU0 : v5.cell? ⟨w.heap.size + 1 + 1, 0, none⟩ = some (.int .u64 a0) := HU.out.cell 0
  have kU1 : v5.cell? ⟨w.heap.size + 1 + 1, 1, none⟩ = some (.int .u64 a1) := HU.out.cell 1
  have kD0 : v5.cell? ⟨w.heap.size + 1 + 1 + 1, 0, none⟩ = some (.int .u64 b0) := HD.out.cell 0
  have kD1 : v5.cell? ⟨w.heap.size + 1 + 1 + 1, 1, none⟩ = some (.int .u64 b1) := HD.out.cell 1
  have kQ0 : v5.cell? ⟨w.heap.size + 1 + 1 + 1 + 1, 0, none⟩ = some (.int .i64 0) := HQ.out.cell 0
  have jQ0 : v5.frozen? ⟨w.heap.size + 1 + 1 + 1 + 1, 0, none⟩ = false := HQ.out.frozen 0
  have kQ1 : v5.cell? ⟨w.heap.size + 1 + 1 + 1 + 1, 1, none⟩ = some (.int .i64 0) := HQ.out.cell 1
  have jQ1 : v5.frozen? ⟨w.heap.size + 1 + 1 + 1 + 1, 1, none⟩ = false := HQ.out.frozen 1
  have kQ2 : v5.cell? ⟨w.heap.size + 1 + 1 + 1 + 1, 2, none⟩ = some (.int .i64 0) := HQ.out.cell 2
  have jQ2 : v5.frozen? ⟨w.heap.size + 1 + 1 + 1 + 1, 2, none⟩ = false := HQ.out.frozen 2
  have kQ3 : v5.cell? ⟨w.heap.size + 1 + 1 + 1 + 1, 3, none⟩ = some (.int .i64 0) := HQ.out.cell 3
  have jQ3 : v5.frozen? ⟨w.heap.size + 1 + 1 + 1 + 1, 3, none⟩ = false := HQ.out.frozen 3
  have kQ4 : v5.cell? ⟨w.heap.size + 1 + 1 + 1 + 1, 4, none⟩ = some (.bool false) := HQ.out.cell 4
  have jQ4 : v5.frozen? ⟨w.heap.size + 1 + 1 + 1 + 1, 4, none⟩ = false := HQ.out.frozen 4
  have kQ5 : v5.cell? ⟨w.heap.size + 1 + 1 + 1 + 1, 5, none⟩ = some (.slice none 0 0) := HQ.out.cell 5
  have jQ5 : v5.frozen? ⟨w.heap.size + 1 + 1 + 1 + 1, 5, none⟩ = false := HQ.out.frozen 5
  have kW0 : v5.cell? ⟨gw, 0, none⟩ = some (.int .u64 t0) := HW.out.cell 0
  have kW1 : v5.cell? ⟨gw, 1, none⟩ = some (.int .u64 t1) := HW.out.cell 1
  have kW2 : v5.cell? ⟨gw, 2, none⟩ = some (.int .u64 u0) := HW.out.cell 2
  have kW3 : v5.cell? ⟨gw, 3, none⟩ = some (.int .u64 u1) := HW.out.cell 3
  have kW4 : v5.cell? ⟨gw, 4, none⟩ = some (.int .u64 l0) := HW.out.cell 4
  have kW5 : v5.cell? ⟨gw, 5, none⟩ = some (.int .u64 l1) := HW.out.cell 5
  refine (ST.out _ _ _ (HN.out)).mono ?_
  rintro e v6 ⟨rfl, hb⟩
  clear kS0 kS1 kS2 kS3 kS4 kS5 kS6 kS7 kS8 kS9 kS10 kS11 kS12 kC0 jC0 kC1 jC1 kC2 jC2 kC3 jC3 kC4 jC4 kC5 jC5 kU0 kU1 kD0 kD1 kQ0 jQ0 kQ1 jQ1 kQ2 jQ2 kQ3 jQ3 kQ4 jQ4 kQ5 jQ5 kW0 kW1 kW2 kW3 kW4 kW5
  have HS := Lib.hid (Blk.next (w := v5) HS.out hb)
  have HC := Lib.hid (Blk.next (w := v5) HC.out hb)
  have HU := Lib.hid (Blk.next (w := v5) HU.out hb)
  have HD := Lib.hid (Blk.next (w := v5) HD.out hb)
  have HQ := Lib.hid (Blk.next (w := v5) HQ.out hb)
  have HW := Lib.hid (Blk.next (w := v5) HW.out hb)
  have HN : Hid (RdZ v6 2 A' n z) := Lib.hid (RdZ.kept (w := v5) HN.out hb)
  have EE := Lib.hid (EE.out.trans (hb.mono EE.out.size))
  clear hb
  have kS0 : v6.cell? ⟨w.heap.size, 0, none⟩ = some (.int .i64 (s 0)) := HS.out.cell 0
  have kS1 : v6.cell? ⟨w.heap.size, 1, none⟩ = some (.int .i64 (s 1)) := HS.out.cell 1
  have kS2 : v6.cell? ⟨w.heap.size, 2, none⟩ = some (.int .i64 (s 2)) := HS.out.cell 2
  have kS3 : v6.cell? ⟨w.heap.size, 3, none⟩ = some (.int .i64 (s 3)) := HS.out.cell 3
  have kS4 : v6.cell? ⟨w.heap.size, 4, none⟩ = some (.int .i64 (s 4)) := HS.out.cell 4
  have kS5 : v6.cell? ⟨w.heap.size, 5, none⟩ = some (.int .i64 (s 5)) := HS.out.cell 5
  have kS6 : v6.cell? ⟨w.heap.size, 6, none⟩ = some (.int .i64 (s 6)) := HS.out.cell 6
  have kS7 : v6.cell? ⟨w.heap.size, 7, none⟩ = some (.int .i64 (s 7)) := HS.out.cell 7
  have kS8 : v6.cell? ⟨w.heap.size, 8, none⟩ = some (.slice SA sn sc) := HS.out.cell 8
  have kS9 : v6.cell? ⟨w.heap.size, 9, none⟩ = some (.int .i64 (s 9)) := HS.out.cell 9
  have kS10 : v6.cell? ⟨w.heap.size, 10, none⟩ = some (.int .i64 (s 10)) := HS.out.cell 10
  have kS11 : v6.cell? ⟨w.heap.size, 11, none⟩ = some (.int .i64 (s 11)) := HS.out.cell 11
  have kS12 : v6.cell? ⟨w.heap.size, 12, none⟩ = some (.int .i64 (s 12)) := HS.out.cell 12
  have kC0 : v6.cell? ⟨w.heap.size + 1, 0, none⟩ = some (.int .i64 p) := HC.out.cell 0
  have jC0 : v6.frozen? ⟨w.heap.size + 1, 0, none⟩ = false := HC.out.frozen 0
  have kC1 : v6.cell? ⟨w.heap.size + 1, 1, none⟩ = some (.int .i64 d) := HC.out.cell 1
  have jC1 : v6.frozen? ⟨w.heap.size + 1, 1, none⟩ = false := HC.out.frozen 1
  have kC2 : v6.cell? ⟨w.heap.size + 1, 2, none⟩ = some (.int .i64 md) := HC.out.cell 2
  have jC2 : v6.frozen? ⟨w.heap.size + 1, 2, none⟩ = false := HC.out.frozen 2
  have kC3 : v6.cell? ⟨w.heap.size + 1, 3, none⟩ = some (.int .i64 le) := HC.out.cell 3
  have jC3 : v6.frozen? ⟨w.heap.size + 1, 3, none⟩ = false := HC.out.frozen 3
  have kC4 : v6.cell? ⟨w.heap.size + 1, 4, none⟩ = some (.bool wa) := HC.out.cell 4
  have jC4 : v6.frozen? ⟨w.heap.size + 1, 4, none⟩ = false := HC.out.frozen 4
  have kC5 : v6.cell? ⟨w.heap.size + 1, 5, none⟩ = some (.slice A' n c') := HC.out.cell 5
  have jC5 : v6.frozen? ⟨w.heap.size + 1, 5, none⟩ = false := HC.out.frozen 5
  have kU0 : v6.cell? ⟨w.heap.size + 1 + 1, 0, none⟩ = some (.int .u64 a0) := HU.out.cell 0
  have kU1 : v6.cell? ⟨w.heap.size + 1 + 1, 1, none⟩ = some (.int .u64 a1) := HU.out.cell 1
  have kD0 : v6.cell? ⟨w.heap.size + 1 + 1 + 1, 0, none⟩ = some (.int .u64 b0) := HD.out.cell 0
  have kD1 : v6.cell? ⟨w.heap.size + 1 + 1 + 1, 1, none⟩ = some (.int .u64 b1) := HD.out.cell 1
  have kQ0 : v6.cell? ⟨w.heap.size + 1 + 1 + 1 + 1, 0, none⟩ = some (.int .i64 0) := HQ.out.cell 0
  have jQ0 : v6.frozen? ⟨w.heap.size + 1 + 1 + 1 + 1, 0, none⟩ = false := HQ.out.frozen 0
  have kQ1 : v6.cell? ⟨w.heap.size + 1 + 1 + 1 + 1, 1, none⟩ = some (.int .i64 0) := HQ.out.cell 1
  have jQ1 : v6.frozen? ⟨w.heap.size + 1 + 1 + 1 + 1, 1, none⟩ = false := HQ.out.frozen 1
  have kQ2 : v6.cell? ⟨w.heap.size + 1 + 1 + 1 + 1, 2, none⟩ = some (.int .i64 0) := HQ.out.cell 2
  have jQ2 : v6.frozen? ⟨w.heap.size + 1 + 1 + 1 + 1, 2, none⟩ = false := HQ.out.frozen 2
  have kQ3 : v6.cell? ⟨w.heap.size + 1 + 1 + 1 + 1, 3, none⟩ = some (.int .i64 0) := HQ.out.cell 3
  have jQ3 : v6.frozen? ⟨w.heap.size + 1 + 1 + 1 + 1, 3, none⟩ = false := HQ.out.frozen 3
  have kQ4 : v6.cell? ⟨w.heap.size + 1 + 1 + 1 + 1, 4, none⟩ = some (.bool false) := HQ.out.cell 4
  have jQ4 : v6.frozen? ⟨w.heap.size + 1 + 1 + 1 + 1, 4, none⟩ = false := HQ.out.frozen 4
  have kQ5 : v6.cell? ⟨w.heap.size + 1 + 1 + 1 + 1, 5, none⟩ = some (.slice none 0 0) := HQ.out.cell 5
  have jQ5 : v6.frozen? ⟨w.heap.size + 1 + 1 + 1 + 1, 5, none⟩ = false := HQ.out.frozen 5
  have kW0 : v6.cell? ⟨gw, 0, none⟩ = some (.int .u64 t0) := HW.out.cell 0
  have kW1 : v6.cell? ⟨gw, 1, none⟩ = some (.int .u64 t1) := HW.out.cell 1
  have kW2 : v6.cell? ⟨gw, 2, none⟩ = some (.int .u64 u0) := HW.out.cell 2
  have kW3 : v6.cell? ⟨gw, 3, none⟩ = some (.int .u64 u1) := HW.out.cell 3
  have kW4 : v6.cell? ⟨gw, 4, none⟩ = some (.int .u64 l0) := HW.out.cell 4
  have kW5 : v6.cell? ⟨gw, 5, none⟩ = some (.int .u64 l1) := HW.out.cell 5
  go_wp2_with fail
  refine (WY.out _).mono ?_
  rintro e v7 ⟨rfl, hb⟩
  clear kS0 kS1 kS2 kS3 kS4 kS5 kS6 kS7 kS8 kS9 kS10 kS11 kS12 kC0 jC0 kC1 jC1 kC2 jC2 kC3 jC3 kC4 jC4 kC5 jC5 kU0 kU1 kD0 kD1 kQ0 jQ0 kQ1 jQ1 kQ2 jQ2 kQ3 jQ3 kQ4 jQ4 kQ5 jQ5 kW0 kW1 kW2 kW3 kW4 kW5
  have HS := Lib.hid (Blk.next (w := v6) HS.out hb)
  have HC := Lib.hid (Blk.next (w := v6) HC.out hb)
  have HU := Lib.hid (Blk.next (w := v6) HU.out hb)
  have HD := Lib.hid (Blk.next (w := v6) HD.out hb)
  have HQ := Lib.hid (Blk.next (w := v6) HQ.out hb)
  have HW := Lib.hid (Blk.next (w := v6) HW.out hb)
  have HN : Hid (RdZ v7 2 A' n z) := Lib.hid (RdZ.kept (w := v6) HN.out hb)
  have EE := Lib.hid (EE.out.trans (hb.mono EE.out.size))
  clear hb
  have kS0 : v7.cell? ⟨w.heap.size, 0, none⟩ = some (.int .i64 (s 0)) := HS.out.cell 0
  have kS1 : v7.cell? ⟨w.heap.size, 1, none⟩ = some (.int .i64 (s 1)) := HS.out.cell 1
  have kS2 : v7.cell? ⟨w.heap.size, 2, none⟩ = some (.int .i64 (s 2)) := HS.out.cell 2
  have kS3 : v7.cell? ⟨w.heap.size, 3, none⟩ = some (.int .i64 (s 3)) := HS.out.cell 3
  have kS4 : v7.cell? ⟨w.heap.size, 4, none⟩ = some (.int .i64 (s 4)) := HS.out.cell 4
  have kS5 : v7.cell? ⟨w.heap.size, 5, none⟩ = some (.int .i64 (s 5)) := HS.out.cell 5
  have kS6 : v7.cell? ⟨w.heap.size, 6, none⟩ = some (.int .i64 (s 6)) := HS.out.cell 6
  have kS7 : v7.cell? ⟨w.heap.size, 7, none⟩ = some (.int .i64 (s 7)) := HS.out.cell 7
  have kS8 : v7.cell? ⟨w.heap.size, 8, none⟩ = some (.slice SA sn sc) := HS.out.cell 8
  have kS9 : v7.cell? ⟨w.heap.size, 9, none⟩ = some (.int .i64 (s 9)) := HS.out.cell 9
  have kS10 : v7.cell? ⟨w.heap.size, 10, none⟩ = some (.int .i64 (s 10)) := HS.out.cell 10
  have kS11 : v7.cell? ⟨w.heap.size, 11, none⟩ = some (.int .i64 (s 11)) := HS.out.cell 11
  have kS12 : v7.cell? ⟨w.heap.size, 12, none⟩ = some (.int .i64 (s 12)) := HS.out.cell 12
  have kC0 : v7.cell? ⟨w.heap.size + 1, 0, none⟩ = some (.int .i64 p) := HC.out.cell 0
  have jC0 : v7.frozen? ⟨w.heap.size + 1, 0, none⟩ = false := HC.out.frozen 0
  have kC1 : v7.cell? ⟨w.heap.size + 1, 1, none⟩ = some (.int .i64 d) := HC.out.cell 1
  have jC1 : v7.frozen? ⟨w.heap.size + 1, 1, none⟩ = false := HC.out.frozen 1
  have kC2 : v7.cell? ⟨w.heap.size + 1, 2, none⟩ = some (.int .i64 md) := HC.out.cell 2
  have jC2 : v7.frozen? ⟨w.heap.size + 1, 2, none⟩ = false := HC.out.frozen 2
  have kC3 : v7.cell? ⟨w.heap.size + 1, 3, none⟩ = some (.int .i64 le) := HC.out.cell 3
  have jC3 : v7.frozen? ⟨w.heap.size + 1, 3, none⟩ = false := HC.out.frozen 3
  have kC4 : v7.cell? ⟨w.heap.size + 1, 4, none⟩ = some (.bool wa) := HC.out.cell 4
  have jC4 : v7.frozen? ⟨w.heap.size + 1, 4, none⟩ = false := HC.out.frozen 4
  have kC5 : v7.cell? ⟨w.heap.size + 1, 5, none⟩ = some (.slice A' n c') := HC.out.cell 5
  have jC5 : v7.frozen? ⟨w.heap.size + 1, 5, none⟩ = false := HC.out.frozen 5
  have kU0 : v7.cell? ⟨w.heap.size + 1 + 1, 0, none⟩ = some (.int .u64 a0) := HU.out.cell 0
  have kU1 : v7.cell? ⟨w.heap.size + 1 + 1, 1, none⟩ = some (.int .u64 a1) := HU.out.cell 1
  have kD0 : v7.cell? ⟨w.heap.size + 1 + 1 + 1, 0, none⟩ = some (.int .u64 b0) := HD.out.cell 0
  have kD1 : v7.cell? ⟨w.heap.size + 1 + 1 + 1, 1, none⟩ = some (.int .u64 b1) := HD.out.cell 1
  have kQ0 : v7.cell? ⟨w.heap.size + 1 + 1 + 1 + 1, 0, none⟩ = some (.int .i64 0) := HQ.out.cell 0
  have jQ0 : v7.frozen? ⟨w.heap.size + 1 + 1 + 1 + 1, 0, none⟩ = false := HQ.out.frozen 0
  have kQ1 : v7.cell? ⟨w.heap.size + 1 + 1 + 1 + 1, 1, none⟩ = some (.int .i64 0) := HQ.out.cell 1
  have jQ1 : v7.frozen? ⟨w.heap.size + 1 + 1 + 1 + 1, 1, none⟩ = false := HQ.out.frozen 1
  have kQ2 : v7.cell? ⟨w.heap.size + 1 + 1 + 1 + 1, 2, none⟩ = some (.int .i64 0) := HQ.out.cell 2
  have jQ2 : v7.frozen? ⟨w.heap.size + 1 + 1 + 1 + 1, 2, none⟩ = false := HQ.out.frozen 2
  have kQ3 : v7.cell? ⟨w.heap.size + 1 + 1 + 1 + 1, 3, none⟩ = some (.int .i64 0) := HQ.out.cell 3
  have jQ3 : v7.frozen? ⟨w.heap.size + 1 + 1 + 1 + 1, 3, none⟩ = false := HQ.out.frozen 3
  have kQ4 : v7.cell? ⟨w.heap.size + 1 + 1 + 1 + 1, 4, none⟩ = some (.bool false) := HQ.out.cell 4
  have jQ4 : v7.frozen? ⟨w.heap.size + 1 + 1 + 1 + 1, 4, none⟩ = false := HQ.out.frozen 4
  have kQ5 : v7.cell? ⟨w.heap.size + 1 + 1 + 1 + 1, 5, none⟩ = some (.slice none 0 0) := HQ.out.cell 5
  have jQ5 : v7.frozen? ⟨w.heap.size + 1 + 1 + 1 + 1, 5, none⟩ = false := HQ.out.frozen 5
  have kW0 : v7.cell? ⟨gw, 0, none⟩ = some (.int .u64 t0) := HW.out.cell 0
  have kW1 : v7.cell? ⟨gw, 1, none⟩ = some (.int .u64 t1) := HW.out.cell 1
  have kW2 : v7.cell? ⟨gw, 2, none⟩ = some (.int .u64 u0) := HW.out.cell 2
  have kW3 : v7.cell? ⟨gw, 3, none⟩ = some (.int .u64 u1) := HW.out.cell 3
  have kW4 : v7.cell? ⟨gw, 4, none⟩ = some (.int .u64 l0) := HW.out.cell 4
  have kW5 : v7.cell? ⟨gw, 5, none⟩ = some (.int .u64 l1) := HW.out.cell 5
  go_wp2_with fail
  all_goals refine bodyPost_ret (v := .agg #[.int .i64 p, .int .i64 0, .int .i64 0, .int .i64 le, .bool wa, .slice A' n c']) (by simp [results, Try.results8, go_sem, *]) rfl ⟨A', c', rfl, ?_, HC'.out, ?_⟩
  any_goals ((iterate 8 refine rdZ_far ?_ (fun a ha => by have := HA'.out a ha; dsimp only; omega) _); exact HN.out)
  all_goals ((iterate 8 refine Below.setCell ?_ (by first | omega | (dsimp only; omega)) _); exact EE.out)
end Go.Proofs.Ytffcmfpadaebdaa
