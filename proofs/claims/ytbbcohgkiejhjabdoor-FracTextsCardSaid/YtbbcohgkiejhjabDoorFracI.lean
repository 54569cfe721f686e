/- Contract of frac.Text: a quotient as a text. -/
import Derived.Test.YtbbcohgkiejhjabDoorRows
import Derived.Test.YtbbcohgkiejhjabDoorRowKit
import Derived.Test.YtbbcohgkiejhjabDoorNumsMath
import Derived.Test.YtbbcohgkiejhjabDoorNumsA
import Derived.Test.YtbbcohgkiejhjabDoorDigA
import Derived.Test.YtbbcohgkiejhjabDoorDigB
import Derived.Test.YtbbcohgkiejhjabDoorFracA
import Derived.Test.YtbbcohgkiejhjabDoorFracH
import Derived.WalkKit
import Derived.Lib.Hide
import Derived.Lib.ItoaLen
import Derived.Lib.AppendIntMem
import Derived.WalkSpells
import Derived.WalkLawsBesides
import Derived.Deep.QuietTactic
import Derived.BigQuiet
import Derived.Deep.RegionHeld3
namespace Go.Proofs.YtbbcohgkiejhjabDoor
open Go.RowKit Go.Sort
set_option linter.unusedSimpArgs false
set_option linter.unusedVariables false
theorem below_grow {B : Nat} {a w : World} (h : Below B a w) (hB : B ≤ w.heap.size) (os : Array Obj) : Below B a (grow w os) :=
  ⟨h.os, h.tape, h.output, by have := h.size; simp only [grow, Array.size_append]; omega, fun i hi => by
    rw [← h.block i hi]
    exact Array.getElem?_append_left (by omega)⟩
abbrev Tab (w : World) : Prop := Lib.TabIs Tryd.prog w "internal/strconv.uint64pow10" .u64 Lib.pow10Tab
theorem tab_next {w w' : World} (h : Tab w) (hb : Below w.heap.size w w') : Tab w' := Lib.tabBelow_of_tabIs h w' hb
theorem dof_any (n : Int) (w : World) (ht : Hid (Tab w)) (h0 : -9223372036854775808 ≤ n) (h1 : n ≤ 9223372036854775807) :
    Calls Tryd.prog 35 #[.int .i64 n] w fun e w' => e = .returned (.string ⟨(Lib.itoa n).toArray⟩) ∧ Below w.heap.size w w' :=
  (of_any n w h0 h1 ht.out).mono fun e w' ⟨he, k, os, hw⟩ => ⟨he, by rw [hw]; exact below_grow (below_drewN (Below.refl _ _) _) (Nat.le_refl _) os⟩
set_option maxHeartbeats 400000 in
theorem text_zero (a c : Int) (w : World) (ht : Tab w) (h0 : -9223372036854775808 ≤ a) (h1 : a ≤ 9223372036854775807) :
    Calls Tryd.prog 18 #[.agg #[.int .i64 a, .int .i64 0, .int .i64 c]] w fun e w' => e = .returned (.string ⟨(frT a 0 c).toArray⟩) ∧ Below w.heap.size w w' := by
  have HA := Lib.hid (fun w t => dof_any a w t h0 h1)
  have hT := Lib.hid ht
  clear ht
  go_enter Tryd.func18, Tryd.ntmps18
  go_wp2_with fail
  refine (HA.out _ (Lib.hid (tab_next hT.out ((Below.refl _ _).alloc (Nat.le_refl _) _)))).mono ?_
  rintro e w1 ⟨rfl, hb1⟩
  have k1 : w1.cell? ⟨w.heap.size, 1, none⟩ = some (.int .i64 0) := keep_cell hb1 (World.cell?_alloc_mark w _ _ _ 1)
  go_wp2_with fail
  go_ret
  exact ⟨by rw [frT_zero]; rfl, ((Below.refl _ _).alloc (Nat.le_refl _) _).trans (hb1.mono (by simp))⟩
set_option maxHeartbeats 800000 in
theorem text_more (a b c : Int) (w : World) (ht : Tab w) (hb0 : ¬ b = 0) (h0 : -9223372036854775808 ≤ a) (h1 : a ≤ 9223372036854775807) (h2 : -9223372036854775808 ≤ b) (h3 : b ≤ 9223372036854775807) (h4 : -9223372036854775808 ≤ c) (h5 : c ≤ 9223372036854775807) :
    Calls Tryd.prog 18 #[.agg #[.int .i64 a, .int .i64 b, .int .i64 c]] w fun e w' => e = .returned (.string ⟨(frT a b c).toArray⟩) ∧ Below w.heap.size w w' := by
  have lA := Lib.itoa_length_le a h0 h1
  have lB := Lib.itoa_length_le b h2 h3
  have lC := Lib.itoa_length_le c h4 h5
  have A := fun w t => dof_any a w t h0 h1
  have B := fun w t => dof_any b w t h2 h3
  have C := fun w t => dof_any c w t h4 h5
  have T := frT_more a c hb0
  generalize Lib.itoa a = LA at lA A T
  generalize Lib.itoa b = LB at lB B T
  generalize Lib.itoa c = LC at lC C T
  have HA := Lib.hid A
  have HB := Lib.hid B
  have HC := Lib.hid C
  have HT := Lib.hid T
  have hT := Lib.hid ht
  clear A B C T ht
  have x1 : ¬ 9223372036854775807 < LA.length + 1 := by omega
  have x2 : ¬ 9223372036854775807 ≤ LA.length := by omega
  have x3 : ¬ 9223372036854775807 < LA.length + 1 + LB.length := by omega
  have x4 : ¬ 9223372036854775807 < LA.length + 1 + LB.length + 1 := by omega
  have x5 : ¬ 9223372036854775807 ≤ LA.length + 1 + LB.length := by omega
  have x6 : ¬ 9223372036854775807 < LA.length + 1 + LB.length + 1 + LC.length := by omega
  have hbz : (b == 0) = false := by rw [beq_eq_false_iff_ne]; exact hb0
  go_enter Tryd.func18, Tryd.ntmps18
  go_wp2_with fail
  refine (HA.out _ (Lib.hid (tab_next hT.out ((Below.refl _ _).alloc (Nat.le_refl _) _)))).mono ?_
  rintro e w1 ⟨rfl, hb1⟩
  have k1 : w1.cell? ⟨w.heap.size, 1, none⟩ = some (.int .i64 b) := keep_cell hb1 (World.cell?_alloc_mark w _ _ _ 1)
  have k2 : w1.cell? ⟨w.heap.size, 2, none⟩ = some (.int .i64 c) := keep_cell hb1 (World.cell?_alloc_mark w _ _ _ 2)
  have hw1 : Below w.heap.size w w1 := ((Below.refl _ _).alloc (Nat.le_refl _) _).trans (hb1.mono (by simp))
  have t1 := Lib.hid (tab_next hT.out hw1)
  go_wp2_with fail
  go_region_held3 (fun W => W.cell? ⟨w.heap.size, 1, none⟩ = some (.int .i64 b) ∧ W.cell? ⟨w.heap.size, 2, none⟩ = some (.int .i64 c))
    (go_keep)
    (first
      | (go_at_call_of 35 (Value.int IntKind.i64 b); refine (HB.out _ (Lib.hid (tab_next t1.out ((Below.refl _ _).drew)))).mono ?_; rintro e w2 ⟨rfl, hbB⟩; have t2 := Lib.hid (tab_next (tab_next t1.out ((Below.refl _ _).drew)) hbB); have n1 := Lib.hid (keep_cell hbB k1); have n2 := Lib.hid (keep_cell hbB k2); clear k1 k2; have k1 := n1.out; have k2 := n2.out)
      | (go_at_call_of 35 (Value.int IntKind.i64 c); refine (HC.out _ t2).mono ?_; rintro e w3 ⟨rfl, hbC⟩; have n1 := Lib.hid (keep_cell hbC k1); have n2 := Lib.hid (keep_cell hbC k2); clear k1 k2; have k1 := n1.out; have k2 := n2.out))
  have hw2 : Below w.heap.size w w2 := (hw1.drew).trans (hbB.mono (hw1.drew).size)
  have hw3 : Below w.heap.size w w3 := hw2.trans (hbC.mono hw2.size)
  go_wp2_with fail
  go_ret
  exact ⟨by rw [HT.out, ← join5']; rfl, hw3⟩
end Go.Proofs.YtbbcohgkiejhjabDoor
