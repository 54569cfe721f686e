/- The walk of ClockTexts: it answers true for every input, and leaves all old blocks as they were. No condition but the laid tables, which are tied to the text. -/
import Derived.Test.YtkepplkfjcoemacDoorRows
import Derived.Test.YtkepplkfjcoemacDoorRowKit
import Derived.Test.YtkepplkfjcoemacDoorNumsMath
import Derived.Test.YtkepplkfjcoemacDoorNumsA
import Derived.Test.YtkepplkfjcoemacDoorDigA
import Derived.Test.YtkepplkfjcoemacDoorDigB
import Derived.Test.YtkepplkfjcoemacDoorTab
import Derived.Test.YtkepplkfjcoemacDoorClockA
import Derived.Test.YtkepplkfjcoemacDoorClockB
import Derived.WalkKit
import Derived.ProofKit
import Derived.OpenShut
import Derived.Deep.QuietTactic
import Derived.BigQuiet
import Derived.Lib.SmallJoins
import Derived.Lib.Hide
import Derived.WalkSpells
import Derived.WalkLawsBesides
import Derived.IntWalk
import Derived.Deep.RegionHeld3
import Derived.Lib.LaidU8
import Derived.Lib.LaidTab
namespace Go.Proofs.YtkepplkfjcoemacDoor.clockTexts
open Go.ChangeShapes Go.WideShapes Go.ChangeAt Go.RowKit Go.Joins
set_option linter.unusedSimpArgs false
set_option linter.unusedVariables false

theorem gT : Tryd.prog.globalNamed "internal/strconv.uint64pow10" = some 1 := by kernel_rfl
theorem gTType : (Tryd.prog.globals[1]?).map (·.type) = some 114 := by kernel_rfl
theorem tab_of_laid {w : World} (h0 : laidMetH Tryd.prog Rows.clockTextsRow.laid w) : Tab w := by
  have h : laidMet Tryd.prog Rows.clockTextsRow.laid w := h0
  obtain ⟨g', t', cs, fuel, p, hg', ht', hvar, hd⟩ := Lib.laidMet.reads h (.tail _ (.tail _ (.head _)))
  obtain rfl := Option.some.inj (gT.symm.trans hg')
  obtain rfl := Option.some.inj (gTType.symm.trans ht')
  unfold Tab Lib.TabIs
  rw [hvar, ← Lib.cells_of_tab (zs := Lib.pow10Tab) Tryd.underlying114 Tryd.underlying62 (by kernel_rfl) (by kernel_rfl) hd]
/-- a span, as a text -/
def spL (a b : Int) : List UInt8 := ckL a ++ [45] ++ ckL b
theorem join_sp (A B : List UInt8) : (ByteArray.mk A.toArray) ++ (ByteArray.mk #[45]) ++ (ByteArray.mk B.toArray) = ByteArray.mk (A ++ [45] ++ B).toArray := by
  simp [ByteArray.mk_append_mk, List.append_assoc]
theorem ck_eg : ckL 90061 = [49, 100, 48, 49, 58, 48, 49, 58, 48, 49] := by
  have e : Lib.itoa ((90061 / 86400 : Nat) : Int) = [49] := by
    rw [Lib.itoa_nonneg, Lib.decDigits_one (by decide)]; rfl
  unfold ckL
  rw [if_neg (by decide)]
  show ckP 90061 = _
  unfold ckP
  rw [if_neg (by decide), e]
  decide +kernel
set_option maxRecDepth 100000 in
set_option maxHeartbeats 1000000 in
theorem ckalive (w : World) (ht : Tab w) :
    Calls Tryd.prog 22 #[] w fun e w' => e = .returned (.bool true) ∧ Below w.heap.size w w' := by
  have H := ctext_any 90061 w ht (by omega) (by omega)
  rw [ck_eg] at H
  have H := Lib.hid H
  clear ht
  go_enter Tryd.func22, Tryd.ntmps22
  go_wp2_with fail
  refine H.out.mono ?_
  rintro e w1 ⟨rfl, hb⟩
  go_wp2_with fail
  go_ret
  exact ⟨rfl, hb⟩
set_option maxRecDepth 100000 in
set_option maxHeartbeats 2000000 in
theorem span_any (a b : Int) (w : World) (ht : Tab w) (a0 : -9223372036854775808 ≤ a) (a1 : a ≤ 9223372036854775807) (b0 : -9223372036854775808 ≤ b) (b1 : b ≤ 9223372036854775807) :
    Calls Tryd.prog 21 #[.agg #[.int .i64 a, .int .i64 b]] w fun e w' => e = .returned (.string ⟨(spL a b).toArray⟩) ∧ Below w.heap.size w w' := by
  have A := fun w t => ctext_any a w t a0 a1
  have B := fun w t => ctext_any b w t b0 b1
  have lA := ckL_len a a0 a1
  have lB := ckL_len b b0 b1
  have HS : spL a b = ckL a ++ [45] ++ ckL b := rfl
  generalize ckL a = LA at A lA HS
  generalize ckL b = LB at B lB HS
  have x1 : ¬ 9223372036854775807 < LA.length + 1 := by omega
  have x2 : ¬ 9223372036854775807 ≤ LA.length := by omega
  have x3 : ¬ 9223372036854775807 < LA.length + 1 + LB.length := by omega
  have x4 : LA.length < 9223372036854775807 := by omega
  have HA := Lib.hid A
  have HB := Lib.hid B
  have HS := Lib.hid HS
  have hb0 : Below w.heap.size w (w.alloc (.cells #[.int .i64 a, .int .i64 b] 37)) := (Below.refl _ _).alloc (Nat.le_refl _) _
  have t0 := Lib.hid (tab_next ht hb0)
  have k0 := World.cell?_alloc_mark w #[.int .i64 a, .int .i64 b] 37 (0, 0) 0
  have k1 := World.cell?_alloc_mark w #[.int .i64 a, .int .i64 b] 37 (0, 0) 1
  clear A B lA lB ht a0 a1 b0 b1
  obtain ⟨W, hW⟩ : ∃ W : World, w.alloc (.cells #[.int .i64 a, .int .i64 b] 37) = W := ⟨_, rfl⟩
  rw [hW] at t0 k0 k1 hb0
  have k0 : W.cell? ⟨w.heap.size, 0, none⟩ = some (.int .i64 a) := k0
  have k1 : W.cell? ⟨w.heap.size, 1, none⟩ = some (.int .i64 b) := k1
  have HB0 := Lib.hid hb0
  clear hb0
  go_enter Tryd.func21, Tryd.ntmps21
  go_wp2_with fail
  try rw [hW]
  clear hW
  go_region_held3 (fun W => W.cell? ⟨w.heap.size, 0, none⟩ = some (.int .i64 a) ∧ W.cell? ⟨w.heap.size, 1, none⟩ = some (.int .i64 b))
    (go_keep)
    (first
      | (go_at_call_of 19 (Value.int IntKind.i64 a); refine (HA.out _ (tab_next t0.out ((Below.refl _ _).drew))).mono ?_; rintro e w2 ⟨rfl, hbA⟩; have t2 := Lib.hid (tab_next (tab_next t0.out ((Below.refl _ _).drew)) hbA); have n0 := Lib.hid (keep_cell hbA k0); have n1 := Lib.hid (keep_cell hbA k1); clear k0 k1; have k0 := n0.out; have k1 := n1.out)
      | (go_at_call_of 19 (Value.int IntKind.i64 b); refine (HB.out _ t2.out).mono ?_; rintro e w3 ⟨rfl, hbB⟩; have n0 := Lib.hid (keep_cell hbB k0); have n1 := Lib.hid (keep_cell hbB k1); clear k0 k1; have k0 := n0.out; have k1 := n1.out))
  have q2 : Below w.heap.size w w2 := (HB0.out.drew).trans (hbA.mono (HB0.out.drew).size)
  have q3 : Below w.heap.size w w3 := q2.trans (hbB.mono q2.size)
  go_wp2_with fail
  go_ret
  exact ⟨by rw [HS.out, ← join_sp]; rfl, q3⟩
set_option maxRecDepth 100000 in
set_option maxHeartbeats 4000000 in
theorem walk0 (t a b : Int) (w : World) (ht : Tab w) (t0 : -9223372036854775808 ≤ t) (t1 : t ≤ 9223372036854775807) (a0 : -9223372036854775808 ≤ a) (a1 : a ≤ 9223372036854775807) (b0 : -9223372036854775808 ≤ b) (b1 : b ≤ 9223372036854775807) :
    Calls Tryd.prog 5 #[.int .i64 t, .agg #[.int .i64 a, .int .i64 b]] w fun e w' => e = .returned (.bool true) ∧ Below w.heap.size w w' := by
  have T := fun w h => ctext_any t w h t0 t1
  have R := fun w => rctext_any t w t0 t1
  have A := fun w => rctext_any a w a0 a1
  have B := fun w => rctext_any b w b0 b1
  have S := fun w h => span_any a b w h a0 a1 b0 b1
  have lA := ckL_len a a0 a1
  have lB := ckL_len b b0 b1
  have HS : spL a b = ckL a ++ [45] ++ ckL b := rfl
  generalize ckL t = LT at T R
  generalize ckL a = LA at A lA HS
  generalize ckL b = LB at B lB HS
  rw [HS] at S
  have JJ := join_sp LA LB
  generalize LA ++ [45] ++ LB = LS at S JJ
  have x1 : ¬ 9223372036854775807 < LA.length + 1 := by omega
  have x2 : ¬ 9223372036854775807 ≤ LA.length := by omega
  have x3 : ¬ 9223372036854775807 < LA.length + 1 + LB.length := by omega
  have x4 : LA.length < 9223372036854775807 := by omega
  have HT := Lib.hid T
  have HR := Lib.hid R
  have HA := Lib.hid A
  have HB := Lib.hid B
  have HSp := Lib.hid S
  have hb0 : Below w.heap.size w (w.alloc (.cells #[.int .i64 a, .int .i64 b] 37)) := (Below.refl _ _).alloc (Nat.le_refl _) _
  have h0 := Lib.hid (tab_next ht hb0)
  have k0 := World.cell?_alloc_mark w #[.int .i64 a, .int .i64 b] 37 (0, 0) 0
  have k1 := World.cell?_alloc_mark w #[.int .i64 a, .int .i64 b] 37 (0, 0) 1
  clear A B T R S lA lB ht a0 a1 b0 b1 t0 t1 HS
  obtain ⟨W, hW⟩ : ∃ W : World, w.alloc (.cells #[.int .i64 a, .int .i64 b] 37) = W := ⟨_, rfl⟩
  rw [hW] at h0 k0 k1 hb0
  have k0 : W.cell? ⟨w.heap.size, 0, none⟩ = some (.int .i64 a) := k0
  have k1 : W.cell? ⟨w.heap.size, 1, none⟩ = some (.int .i64 b) := k1
  have HB0 := Lib.hid hb0
  clear hb0
  go_enter Tryd.func5, Tryd.ntmps5
  go_wp2_with fail
  try rw [hW]
  clear hW
  go_region_held3 (fun W => W.cell? ⟨w.heap.size, 0, none⟩ = some (.int .i64 a) ∧ W.cell? ⟨w.heap.size, 1, none⟩ = some (.int .i64 b))
    (go_keep)
    (first
      | (go_at_call 19; refine (HT.out _ (tab_next h0.out ((Below.refl _ _).drew))).mono ?_; rintro e w2 ⟨rfl, hb2⟩; have h2 := Lib.hid (tab_next (tab_next h0.out ((Below.refl _ _).drew)) hb2); have n0 := Lib.hid (keep_cell hb2 k0); have n1 := Lib.hid (keep_cell hb2 k1); clear k0 k1; have k0 := n0.out; have k1 := n1.out)
      | (go_at_call_of 20 (Value.int IntKind.i64 t); refine (HR.out _).mono ?_; rintro e w3 ⟨rfl, hb3⟩; have h3 := Lib.hid (tab_next h2.out hb3); have n0 := Lib.hid (keep_cell hb3 k0); have n1 := Lib.hid (keep_cell hb3 k1); clear k0 k1; have k0 := n0.out; have k1 := n1.out)
      | (go_at_call 21; refine (HSp.out _ h3.out).mono ?_; rintro e w4 ⟨rfl, hb4⟩; have h4 := Lib.hid (tab_next h3.out hb4); have n0 := Lib.hid (keep_cell hb4 k0); have n1 := Lib.hid (keep_cell hb4 k1); clear k0 k1; have k0 := n0.out; have k1 := n1.out)
      | (go_at_call_of 20 (Value.int IntKind.i64 a); refine (HA.out _).mono ?_; rintro e w5 ⟨rfl, hb5⟩; have h5 := Lib.hid (tab_next h4.out hb5); have n0 := Lib.hid (keep_cell hb5 k0); have n1 := Lib.hid (keep_cell hb5 k1); clear k0 k1; have k0 := n0.out; have k1 := n1.out)
      | (go_at_call_of 20 (Value.int IntKind.i64 b); refine (HB.out _).mono ?_; rintro e w6 ⟨rfl, hb6⟩; have h6 := Lib.hid (tab_next h5.out hb6); have n0 := Lib.hid (keep_cell hb6 k0); have n1 := Lib.hid (keep_cell hb6 k1); clear k0 k1; have k0 := n0.out; have k1 := n1.out)
      | (go_at_call 22; refine (ckalive _ h6.out).mono ?_; rintro e w7 ⟨rfl, hb7⟩; have n0 := Lib.hid (keep_cell hb7 k0); have n1 := Lib.hid (keep_cell hb7 k1); clear k0 k1; have k0 := n0.out; have k1 := n1.out))
  have q2 : Below w.heap.size w w2 := (HB0.out.drew).trans (hb2.mono (HB0.out.drew).size)
  have q3 := q2.trans (hb3.mono q2.size)
  have q4 := q3.trans (hb4.mono q3.size)
  have q5 := q4.trans (hb5.mono q4.size)
  have q6 := q5.trans (hb6.mono q5.size)
  have q7 := q6.trans (hb7.mono q6.size)
  go_wp2_with fail
  go_ret
  exact ⟨rfl, q7⟩
theorem walk {t a b : Int} (w0 : (Lit.int .i64 t).wf = true) (w1 : (Lit.int .i64 a).wf = true) (w2 : (Lit.int .i64 b).wf = true) (w : World) (hL : laidMetH Tryd.prog Rows.clockTextsRow.laid w) :
    Calls Tryd.prog 5 #[.int .i64 t, .agg #[.int .i64 a, .int .i64 b]] w fun e w' => e = .returned (.bool true) ∧ Below w.heap.size w w' := by
  obtain ⟨b0, c0⟩ := bounds_i64 w0
  obtain ⟨b1, c1⟩ := bounds_i64 w1
  obtain ⟨b2, c2⟩ := bounds_i64 w2
  exact walk0 t a b w (tab_of_laid hL) b0 c0 b1 c1 b2 c2

end Go.Proofs.YtkepplkfjcoemacDoor.clockTexts
