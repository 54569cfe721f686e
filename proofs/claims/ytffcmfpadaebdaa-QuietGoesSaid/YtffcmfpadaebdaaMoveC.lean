/- What a car sees, as the document has it: See. -/
import Derived.Test.YtffcmfpadaebdaaFaceB
import Derived.Test.YtffcmfpadaebdaaCarM
import Derived.Test.YtffcmfpadaebdaaWantM
import Derived.Test.YtffcmfpadaebdaaRows
import Derived.Test.YtffcmfpadaebdaaKitM
import Derived.Test.YtffcmfpadaebdaaBitM
import Derived.Laws.AppendOwnNone
import Derived.WalkKit
import Derived.OwnWalk
import Derived.Laws.MakeOwn
import Derived.Laws.OwnMore
import Derived.Deep.LoopGhost
import Derived.IntWalk
import Derived.Lib.Hide
import Derived.WalkSpells
import Derived.WalkLawsBesides
import Derived.Laws.CopyOwn
import Derived.Deep.QuietTactic
import Derived.Deep.RegionHeld3
import Derived.BigQuiet
import Derived.BigRegion
import Derived.Test.YtffcmfpadaebdaaMoveB
namespace Go.Proofs.Ytffcmfpadaebdaa
open Go.RowKit
set_option linter.unusedSimpArgs false
set_option linter.unusedVariables false
set_option maxRecDepth 100000 in
set_option maxHeartbeats 4000000 in
theorem rsee31_any (p d md le : Int) (wa : Bool) (A : Option Addr) (n c : Nat) (z : Nat → Nat → Int) (cap : Int) (U D : Nat → Bool) (w : World) (hr : RdZ w 2 A n z) (hl : n ≤ 1000) :
    Calls Try.prog 17 #[carV p d md le wa A n c, .int .i64 cap, setV U, setV D] w fun e w' => e = .returned (sgtV (waF z n cap U D) (laF n cap U) (laF n cap D)) ∧ Below w.heap.size w w' := by
  have HR := Lib.hid hr
  have WO := fun w hr => rwof_any p d md le wa A n c z cap U D w hr hl
  have LU := fun w => rlands_any p d md le wa A n c cap U w
  have LD := fun w => rlands_any p d md le wa A n c cap D w
  have RU := fun A c w hr => rof_any A c (itL (laF n cap U) 128) w hr (by have := itL_len (laF n cap U) 128; omega)
  have RD := fun A c w hr => rof_any A c (itL (laF n cap D) 128) w hr (by have := itL_len (laF n cap D) 128; omega)
  rw [of_items] at RU RD
  have WFU := itL_wf (laF n cap U) 128 (Nat.le_refl _)
  have WFD := itL_wf (laF n cap D) 128 (Nat.le_refl _)
  unfold sgtV carV setV at *
  obtain ⟨a0, ha0⟩ : ∃ x, wordX U = x := ⟨_, rfl⟩
  obtain ⟨a1, ha1⟩ : ∃ x, wordY U = x := ⟨_, rfl⟩
  obtain ⟨b0, hb0⟩ : ∃ x, wordX D = x := ⟨_, rfl⟩
  obtain ⟨b1, hb1⟩ : ∃ x, wordY D = x := ⟨_, rfl⟩
  obtain ⟨r0, hr0⟩ : ∃ x, wordX (laF n cap U) = x := ⟨_, rfl⟩
  obtain ⟨r1, hr1⟩ : ∃ x, wordY (laF n cap U) = x := ⟨_, rfl⟩
  obtain ⟨l0, hl0⟩ : ∃ x, wordX (laF n cap D) = x := ⟨_, rfl⟩
  obtain ⟨l1, hl1⟩ : ∃ x, wordY (laF n cap D) = x := ⟨_, rfl⟩
  obtain ⟨t0, ht0⟩ : ∃ x, wordX (waF z n cap U D) = x := ⟨_, rfl⟩
  obtain ⟨t1, ht1⟩ : ∃ x, wordY (waF z n cap U D) = x := ⟨_, rfl⟩
  obtain ⟨Lu, hLu⟩ : ∃ l, itL (laF n cap U) 128 = l := ⟨_, rfl⟩
  obtain ⟨Ld, hLd⟩ : ∃ l, itL (laF n cap D) 128 = l := ⟨_, rfl⟩
  simp only [ha0, ha1, hb0, hb1, hr0, hr1, hl0, hl1, ht0, ht1, hLu, hLd] at WO LU LD RU RD WFU WFD ⊢
  replace WO := Lib.hid WO
  replace LU := Lib.hid LU
  replace LD := Lib.hid LD
  replace RU := Lib.hid RU
  replace RD := Lib.hid RD
  replace WFU := Lib.hid WFU
  replace WFD := Lib.hid WFD
  clear ha0 ha1 hb0 hb1 hr0 hr1 hl0 hl1 ht0 ht1 hLu hLd hr
  go_enter Try.func17, Try.ntmps17
  go_wp2_with fail
  have BC := (((Blk.new w #[.int .i64 p, .int .i64 d, .int .i64 md, .int .i64 le, .bool wa, .slice A n c] 29).alloc (.cells #[.int .u64 a0, .int .u64 a1] 32)).alloc (.cells #[.int .u64 b0, .int .u64 b1] 32)).alloc (.cells #[.int .u64 0, .int .u64 0, .int .u64 0, .int .u64 0, .int .u64 0, .int .u64 0] 43)
  have BU := ((Blk.new (w.alloc (.cells #[.int .i64 p, .int .i64 d, .int .i64 md, .int .i64 le, .bool wa, .slice A n c] 29)) #[.int .u64 a0, .int .u64 a1] 32).alloc (.cells #[.int .u64 b0, .int .u64 b1] 32)).alloc (.cells #[.int .u64 0, .int .u64 0, .int .u64 0, .int .u64 0, .int .u64 0, .int .u64 0] 43)
  rw [World.size_alloc] at BU
  have BD := (Blk.new ((w.alloc (.cells #[.int .i64 p, .int .i64 d, .int .i64 md, .int .i64 le, .bool wa, .slice A n c] 29)).alloc (.cells #[.int .u64 a0, .int .u64 a1] 32)) #[.int .u64 b0, .int .u64 b1] 32).alloc (.cells #[.int .u64 0, .int .u64 0, .int .u64 0, .int .u64 0, .int .u64 0, .int .u64 0] 43)
  rw [World.size_alloc, World.size_alloc] at BD
  have Bq := Blk.new (((w.alloc (.cells #[.int .i64 p, .int .i64 d, .int .i64 md, .int .i64 le, .bool wa, .slice A n c] 29)).alloc (.cells #[.int .u64 a0, .int .u64 a1] 32)).alloc (.cells #[.int .u64 b0, .int .u64 b1] 32)) #[.int .u64 0, .int .u64 0, .int .u64 0, .int .u64 0, .int .u64 0, .int .u64 0] 43
  rw [World.size_alloc, World.size_alloc, World.size_alloc] at Bq
  have BE : Below w.heap.size w ((((w.alloc (.cells #[.int .i64 p, .int .i64 d, .int .i64 md, .int .i64 le, .bool wa, .slice A n c] 29)).alloc (.cells #[.int .u64 a0, .int .u64 a1] 32)).alloc (.cells #[.int .u64 b0, .int .u64 b1] 32)).alloc (.cells #[.int .u64 0, .int .u64 0, .int .u64 0, .int .u64 0, .int .u64 0, .int .u64 0] 43)) := ((((Below.refl w.heap.size w).alloc (Nat.le_refl _) _).alloc (by simp <;> omega) _).alloc (by simp <;> omega) _).alloc (by simp <;> omega) _
  obtain ⟨V0, hV0⟩ : ∃ V, ((((w.alloc (.cells #[.int .i64 p, .int .i64 d, .int .i64 md, .int .i64 le, .bool wa, .slice A n c] 29)).alloc (.cells #[.int .u64 a0, .int .u64 a1] 32)).alloc (.cells #[.int .u64 b0, .int .u64 b1] 32)).alloc (.cells #[.int .u64 0, .int .u64 0, .int .u64 0, .int .u64 0, .int .u64 0, .int .u64 0] 43)) = V := ⟨_, rfl⟩
  rw [hV0] at BC BU BD Bq BE ⊢
  have HC := Lib.hid BC
  have HU := Lib.hid BU
  have HD := Lib.hid BD
  have HRb := Lib.hid Bq
  have EE := Lib.hid BE
  have ne0_1 : w.heap.size ≠ w.heap.size + 1 := by omega
  have ne0_2 : w.heap.size ≠ w.heap.size + 1 + 1 := by omega
  have ne0_3 : w.heap.size ≠ w.heap.size + 1 + 1 + 1 := by omega
  have ne1_0 : w.heap.size + 1 ≠ w.heap.size := by omega
  have ne1_2 : w.heap.size + 1 ≠ w.heap.size + 1 + 1 := by omega
  have ne1_3 : w.heap.size + 1 ≠ w.heap.size + 1 + 1 + 1 := by omega
  have ne2_0 : w.heap.size + 1 + 1 ≠ w.heap.size := by omega
  have ne2_1 : w.heap.size + 1 + 1 ≠ w.heap.size + 1 := by omega
  have ne2_3 : w.heap.size + 1 + 1 ≠ w.heap.size + 1 + 1 + 1 := by omega
  have ne3_0 : w.heap.size + 1 + 1 + 1 ≠ w.heap.size := by omega
  have ne3_1 : w.heap.size + 1 + 1 + 1 ≠ w.heap.size + 1 := by omega
  have ne3_2 : w.heap.size + 1 + 1 + 1 ≠ w.heap.size + 1 + 1 := by omega
  clear hV0 BE BC BU BD Bq
  have kC0 : V0.cell? ⟨w.heap.size, 0, none⟩ = some (.int .i64 p) := HC.out.cell 0
  have kC1 : V0.cell? ⟨w.heap.size, 1, none⟩ = some (.int .i64 d) := HC.out.cell 1
  have kC2 : V0.cell? ⟨w.heap.size, 2, none⟩ = some (.int .i64 md) := HC.out.cell 2
  have kC3 : V0.cell? ⟨w.heap.size, 3, none⟩ = some (.int .i64 le) := HC.out.cell 3
  have kC4 : V0.cell? ⟨w.heap.size, 4, none⟩ = some (.bool wa) := HC.out.cell 4
  have kC5 : V0.cell? ⟨w.heap.size, 5, none⟩ = some (.slice A n c) := HC.out.cell 5
  have kU0 : V0.cell? ⟨w.heap.size + 1, 0, none⟩ = some (.int .u64 a0) := HU.out.cell 0
  have kU1 : V0.cell? ⟨w.heap.size + 1, 1, none⟩ = some (.int .u64 a1) := HU.out.cell 1
  have kD0 : V0.cell? ⟨w.heap.size + 1 + 1, 0, none⟩ = some (.int .u64 b0) := HD.out.cell 0
  have kD1 : V0.cell? ⟨w.heap.size + 1 + 1, 1, none⟩ = some (.int .u64 b1) := HD.out.cell 1
  have kR0 : V0.cell? ⟨w.heap.size + 1 + 1 + 1, 0, none⟩ = some (.int .u64 0) := HRb.out.cell 0
  have kR1 : V0.cell? ⟨w.heap.size + 1 + 1 + 1, 1, none⟩ = some (.int .u64 0) := HRb.out.cell 1
  have kR2 : V0.cell? ⟨w.heap.size + 1 + 1 + 1, 2, none⟩ = some (.int .u64 0) := HRb.out.cell 2
  have kR3 : V0.cell? ⟨w.heap.size + 1 + 1 + 1, 3, none⟩ = some (.int .u64 0) := HRb.out.cell 3
  have kR4 : V0.cell? ⟨w.heap.size + 1 + 1 + 1, 4, none⟩ = some (.int .u64 0) := HRb.out.cell 4
  have kR5 : V0.cell? ⟨w.heap.size + 1 + 1 + 1, 5, none⟩ = some (.int .u64 0) := HRb.out.cell 5
  clear kC0 kC1 kC2 kC3 kC4 kC5 kU0 kU1 kD0 kD1 kR0 kR1 kR2 kR3 kR4 kR5
  have kC0 : V0.cell? ⟨w.heap.size, 0, none⟩ = some (.int .i64 p) := HC.out.cell 0
  have kC1 : V0.cell? ⟨w.heap.size, 1, none⟩ = some (.int .i64 d) := HC.out.cell 1
  have kC2 : V0.cell? ⟨w.heap.size, 2, none⟩ = some (.int .i64 md) := HC.out.cell 2
  have kC3 : V0.cell? ⟨w.heap.size, 3, none⟩ = some (.int .i64 le) := HC.out.cell 3
  have kC4 : V0.cell? ⟨w.heap.size, 4, none⟩ = some (.bool wa) := HC.out.cell 4
  have kC5 : V0.cell? ⟨w.heap.size, 5, none⟩ = some (.slice A n c) := HC.out.cell 5
  have kU0 : V0.cell? ⟨w.heap.size + 1, 0, none⟩ = some (.int .u64 a0) := HU.out.cell 0
  have kU1 : V0.cell? ⟨w.heap.size + 1, 1, none⟩ = some (.int .u64 a1) := HU.out.cell 1
  have kD0 : V0.cell? ⟨w.heap.size + 1 + 1, 0, none⟩ = some (.int .u64 b0) := HD.out.cell 0
  have kD1 : V0.cell? ⟨w.heap.size + 1 + 1, 1, none⟩ = some (.int .u64 b1) := HD.out.cell 1
  have HRV : Hid (RdZ V0.drew 2 A n z) := Lib.hid (HR.out.kept EE.out.drew)
  have RBV : Hid (Blk V0.drew (w.heap.size + 1 + 1 + 1) 43 #[.int .u64 0, .int .u64 0, .int .u64 0, .int .u64 0, .int .u64 0, .int .u64 0]) := Lib.hid HRb.out.drew
  go_region_held3 (fun X => X.cell? ⟨w.heap.size, 0, none⟩ = some (.int .i64 p) ∧ X.cell? ⟨w.heap.size, 1, none⟩ = some (.int .i64 d) ∧ X.cell? ⟨w.heap.size, 2, none⟩ = some (.int .i64 md) ∧ X.cell? ⟨w.heap.size, 3, none⟩ = some (.int .i64 le) ∧ X.cell? ⟨w.heap.size, 4, none⟩ = some (.bool wa) ∧ X.cell? ⟨w.heap.size, 5, none⟩ = some (.slice A n c) ∧ X.cell? ⟨w.heap.size + 1, 0, none⟩ = some (.int .u64 a0) ∧ X.cell? ⟨w.heap.size + 1, 1, none⟩ = some (.int .u64 a1) ∧ X.cell? ⟨w.heap.size + 1 + 1, 0, none⟩ = some (.int .u64 b0) ∧ X.cell? ⟨w.heap.size + 1 + 1, 1, none⟩ = some (.int .u64 b1))
    (go_keep)
    (first
        | (go_at_call 32; refine (WO.out (V0.drew) HRV.out).mono ?_; rintro e v1 ⟨rfl, hb⟩; have nkC00 := Lib.hid (bkeep (w := V0.drew) hb kC0); have nkC10 := Lib.hid (bkeep (w := V0.drew) hb kC1); have nkC20 := Lib.hid (bkeep (w := V0.drew) hb kC2); have nkC30 := Lib.hid (bkeep (w := V0.drew) hb kC3); have nkC40 := Lib.hid (bkeep (w := V0.drew) hb kC4); have nkC50 := Lib.hid (bkeep (w := V0.drew) hb kC5); have nkU00 := Lib.hid (bkeep (w := V0.drew) hb kU0); have nkU10 := Lib.hid (bkeep (w := V0.drew) hb kU1); have nkD00 := Lib.hid (bkeep (w := V0.drew) hb kD0); have nkD10 := Lib.hid (bkeep (w := V0.drew) hb kD1); clear kC0 kC1 kC2 kC3 kC4 kC5 kU0 kU1 kD0 kD1; have kC0 := nkC00.out; have kC1 := nkC10.out; have kC2 := nkC20.out; have kC3 := nkC30.out; have kC4 := nkC40.out; have kC5 := nkC50.out; have kU0 := nkU00.out; have kU1 := nkU10.out; have kD0 := nkD00.out; have kD1 := nkD10.out; have Q0 := Lib.hid (RBV.out.next hb); have EE1 := Lib.hid ((EE.out.drew).trans (hb.mono (EE.out.drew).size)); clear hb)
        | (go_at_call_of 34 (Value.int IntKind.u64 (a0 : Int)); refine (LU.out (v1)).mono ?_; rintro e v2 ⟨vu, BU, rfl, how, hB0, hB1, hb⟩; have nkC01 := Lib.hid (bkeep (w := v1) hb kC0); have nkC11 := Lib.hid (bkeep (w := v1) hb kC1); have nkC21 := Lib.hid (bkeep (w := v1) hb kC2); have nkC31 := Lib.hid (bkeep (w := v1) hb kC3); have nkC41 := Lib.hid (bkeep (w := v1) hb kC4); have nkC51 := Lib.hid (bkeep (w := v1) hb kC5); have nkU01 := Lib.hid (bkeep (w := v1) hb kU0); have nkU11 := Lib.hid (bkeep (w := v1) hb kU1); have nkD01 := Lib.hid (bkeep (w := v1) hb kD0); have nkD11 := Lib.hid (bkeep (w := v1) hb kD1); clear kC0 kC1 kC2 kC3 kC4 kC5 kU0 kU1 kD0 kD1; have kC0 := nkC01.out; have kC1 := nkC11.out; have kC2 := nkC21.out; have kC3 := nkC31.out; have kC4 := nkC41.out; have kC5 := nkC51.out; have kU0 := nkU01.out; have kU1 := nkU11.out; have kD0 := nkD01.out; have kD1 := nkD11.out; obtain ⟨LAu, LCu, rfl, hRLu⟩ := ownR_rd how WFU.out; have RLu := Lib.hid hRLu; clear how hB0 hB1 hRLu; have Q1 := Lib.hid (Q0.out.next hb); have EE2 := Lib.hid (EE1.out.trans (hb.mono EE1.out.size)); clear hb)
        | (go_at_call_of 33 (Value.slice LAu Lu.length LCu); refine (RU.out _ _ (v2) RLu.out).mono ?_; rintro e v3 ⟨rfl, hb⟩; have nkC02 := Lib.hid (bkeep (w := v2) hb kC0); have nkC12 := Lib.hid (bkeep (w := v2) hb kC1); have nkC22 := Lib.hid (bkeep (w := v2) hb kC2); have nkC32 := Lib.hid (bkeep (w := v2) hb kC3); have nkC42 := Lib.hid (bkeep (w := v2) hb kC4); have nkC52 := Lib.hid (bkeep (w := v2) hb kC5); have nkU02 := Lib.hid (bkeep (w := v2) hb kU0); have nkU12 := Lib.hid (bkeep (w := v2) hb kU1); have nkD02 := Lib.hid (bkeep (w := v2) hb kD0); have nkD12 := Lib.hid (bkeep (w := v2) hb kD1); clear kC0 kC1 kC2 kC3 kC4 kC5 kU0 kU1 kD0 kD1; have kC0 := nkC02.out; have kC1 := nkC12.out; have kC2 := nkC22.out; have kC3 := nkC32.out; have kC4 := nkC42.out; have kC5 := nkC52.out; have kU0 := nkU02.out; have kU1 := nkU12.out; have kD0 := nkD02.out; have kD1 := nkD12.out; have Q2 := Lib.hid (Q1.out.next hb); have EE3 := Lib.hid (EE2.out.trans (hb.mono EE2.out.size)); clear hb)
        | (go_at_call_of 34 (Value.int IntKind.u64 (b0 : Int)); refine (LD.out (v3)).mono ?_; rintro e v4 ⟨vd, BD, rfl, how, hB0, hB1, hb⟩; have nkC03 := Lib.hid (bkeep (w := v3) hb kC0); have nkC13 := Lib.hid (bkeep (w := v3) hb kC1); have nkC23 := Lib.hid (bkeep (w := v3) hb kC2); have nkC33 := Lib.hid (bkeep (w := v3) hb kC3); have nkC43 := Lib.hid (bkeep (w := v3) hb kC4); have nkC53 := Lib.hid (bkeep (w := v3) hb kC5); have nkU03 := Lib.hid (bkeep (w := v3) hb kU0); have nkU13 := Lib.hid (bkeep (w := v3) hb kU1); have nkD03 := Lib.hid (bkeep (w := v3) hb kD0); have nkD13 := Lib.hid (bkeep (w := v3) hb kD1); clear kC0 kC1 kC2 kC3 kC4 kC5 kU0 kU1 kD0 kD1; have kC0 := nkC03.out; have kC1 := nkC13.out; have kC2 := nkC23.out; have kC3 := nkC33.out; have kC4 := nkC43.out; have kC5 := nkC53.out; have kU0 := nkU03.out; have kU1 := nkU13.out; have kD0 := nkD03.out; have kD1 := nkD13.out; obtain ⟨LAd, LCd, rfl, hRLd⟩ := ownR_rd how WFD.out; have RLd := Lib.hid hRLd; clear how hB0 hB1 hRLd; have Q3 := Lib.hid (Q2.out.next hb); have EE4 := Lib.hid (EE3.out.trans (hb.mono EE3.out.size)); clear hb)
        | (go_at_call_of 33 (Value.slice LAd Ld.length LCd); refine (RD.out _ _ (v4) RLd.out).mono ?_; rintro e v5 ⟨rfl, hb⟩; have nkC04 := Lib.hid (bkeep (w := v4) hb kC0); have nkC14 := Lib.hid (bkeep (w := v4) hb kC1); have nkC24 := Lib.hid (bkeep (w := v4) hb kC2); have nkC34 := Lib.hid (bkeep (w := v4) hb kC3); have nkC44 := Lib.hid (bkeep (w := v4) hb kC4); have nkC54 := Lib.hid (bkeep (w := v4) hb kC5); have nkU04 := Lib.hid (bkeep (w := v4) hb kU0); have nkU14 := Lib.hid (bkeep (w := v4) hb kU1); have nkD04 := Lib.hid (bkeep (w := v4) hb kD0); have nkD14 := Lib.hid (bkeep (w := v4) hb kD1); clear kC0 kC1 kC2 kC3 kC4 kC5 kU0 kU1 kD0 kD1; have kC0 := nkC04.out; have kC1 := nkC14.out; have kC2 := nkC24.out; have kC3 := nkC34.out; have kC4 := nkC44.out; have kC5 := nkC54.out; have kU0 := nkU04.out; have kU1 := nkU14.out; have kD0 := nkD04.out; have kD1 := nkD14.out; have Q4 := (Q3.out.next hb); have rs0 := Q4.cell 0; have rf0 := Q4.frozen 0; have rs1 := Q4.cell 1; have rf1 := Q4.frozen 1; have rs2 := Q4.cell 2; have rf2 := Q4.frozen 2; have rs3 := Q4.cell 3; have rf3 := Q4.frozen 3; have rs4 := Q4.cell 4; have rf4 := Q4.frozen 4; have rs5 := Q4.cell 5; have rf5 := Q4.frozen 5; clear Q4; have EE5 := Lib.hid (EE4.out.trans (hb.mono EE4.out.size)); clear hb))
  go_wp2_with fail
  refine bodyPost_ret (v := .agg #[.int .u64 t0, .int .u64 t1, .int .u64 r0, .int .u64 r1, .int .u64 l0, .int .u64 l1]) (by simp [results, Try.results17, go_sem, *]) rfl ⟨rfl, ((((((EE5.out.setCell (p := ⟨w.heap.size + 1 + 1 + 1, 0, none⟩) (by show w.heap.size ≤ w.heap.size + 1 + 1 + 1; omega) _).setCell (p := ⟨w.heap.size + 1 + 1 + 1, 1, none⟩) (by show w.heap.size ≤ w.heap.size + 1 + 1 + 1; omega) _).setCell (p := ⟨w.heap.size + 1 + 1 + 1, 2, none⟩) (by show w.heap.size ≤ w.heap.size + 1 + 1 + 1; omega) _).setCell (p := ⟨w.heap.size + 1 + 1 + 1, 3, none⟩) (by show w.heap.size ≤ w.heap.size + 1 + 1 + 1; omega) _).setCell (p := ⟨w.heap.size + 1 + 1 + 1, 4, none⟩) (by show w.heap.size ≤ w.heap.size + 1 + 1 + 1; omega) _).setCell (p := ⟨w.heap.size + 1 + 1 + 1, 5, none⟩) (by show w.heap.size ≤ w.heap.size + 1 + 1 + 1; omega) _)⟩
end Go.Proofs.Ytffcmfpadaebdaa
