/- The walk of FracTexts: it answers true for every input, and leaves all old blocks as they were. No condition but the laid tables, which are tied to the text. -/
import Derived.Test.YtbbcohgkiejhjabDoorRows
import Derived.Test.YtbbcohgkiejhjabDoorRowKit
import Derived.Test.YtbbcohgkiejhjabDoorNumsMath
import Derived.Test.YtbbcohgkiejhjabDoorDivC
import Derived.Test.YtbbcohgkiejhjabDoorFracA
import Derived.Test.YtbbcohgkiejhjabDoorFracB
import Derived.Test.YtbbcohgkiejhjabDoorFracF
import Derived.Test.YtbbcohgkiejhjabDoorFracH
import Derived.Test.YtbbcohgkiejhjabDoorFracI
import Derived.WalkKit
import Derived.ProofKit
import Derived.OpenShut
import Derived.Deep.QuietTactic
import Derived.BigQuiet
import Derived.Lib.SmallJoins
import Derived.Lib.Hide
import Derived.WalkSpells
import Derived.WalkLawsBesides
import Derived.Deep.RegionHeld3
import Derived.Lib.LaidU8
import Derived.Lib.LaidTab
namespace Go.Proofs.YtbbcohgkiejhjabDoor.fracTexts
open Go.ChangeShapes Go.WideShapes Go.ChangeAt Go.RowKit Go.Joins
set_option linter.unusedSimpArgs false
set_option linter.unusedVariables false

theorem gT : Tryd.prog.globalNamed "internal/strconv.uint64pow10" = some 2 := by kernel_rfl
theorem gTType : (Tryd.prog.globals[2]?).map (·.type) = some 76 := by kernel_rfl
theorem tab_of_laid {w : World} (h0 : laidMetH Tryd.prog Rows.fracTextsRow.laid w) : Tab w := by
  have h : laidMet Tryd.prog Rows.fracTextsRow.laid w := h0
  obtain ⟨g', t', cs, fuel, p, hg', ht', hvar, hd⟩ := Lib.laidMet.reads h (.tail _ (.tail _ (.head _)))
  obtain rfl := Option.some.inj (gT.symm.trans hg')
  obtain rfl := Option.some.inj (gTType.symm.trans ht')
  unfold Tab Lib.TabIs
  rw [hvar, ← Lib.cells_of_tab (zs := Lib.pow10Tab) Tryd.underlying76 Tryd.underlying45 (by kernel_rfl) (by kernel_rfl) hd]
theorem hund_any (a b c : Int) (w : World) (h2 : c ≤ 9223372036854775807) (h3 : a ≤ 9223372036854775807) :
    Calls Tryd.prog 16 #[.agg #[.int .i64 a, .int .i64 b, .int .i64 c]] w fun e w' => e = .returned (.tuple #[.int .i64 (hdV a b c), .int .i64 (hdE a b c)]) ∧ Below w.heap.size w w' := by
  by_cases h : 0 ≤ a ∧ 0 ≤ b ∧ b < c
  · obtain ⟨A, rfl⟩ := Int.eq_ofNat_of_zero_le h.1
    obtain ⟨B, rfl⟩ := Int.eq_ofNat_of_zero_le h.2.1
    obtain ⟨C, rfl⟩ := Int.eq_ofNat_of_zero_le (show 0 ≤ c by omega)
    exact hund_yes A B C w (by omega) (by omega) (by omega)
  · exact hund_no a b c w h
theorem rhund_any (a b c : Int) (w : World) (h2 : c ≤ 9223372036854775807) (h3 : a ≤ 9223372036854775807) :
    Calls Tryd.prog 17 #[.agg #[.int .i64 a, .int .i64 b, .int .i64 c]] w fun e w' => e = .returned (.tuple #[.int .i64 (hdV a b c), .int .i64 (hdE a b c)]) ∧ Below w.heap.size w w' := by
  by_cases h : 0 ≤ a ∧ 0 ≤ b ∧ b < c
  · obtain ⟨A, rfl⟩ := Int.eq_ofNat_of_zero_le h.1
    obtain ⟨B, rfl⟩ := Int.eq_ofNat_of_zero_le h.2.1
    obtain ⟨C, rfl⟩ := Int.eq_ofNat_of_zero_le (show 0 ≤ c by omega)
    exact rhund_yes A B C w (by omega) (by omega) (by omega)
  · exact rhund_no a b c w h
theorem ftext_any (a b c : Int) (w : World) (ht : Tab w) (h0 : -9223372036854775808 ≤ a) (h1 : a ≤ 9223372036854775807) (h2 : -9223372036854775808 ≤ b) (h3 : b ≤ 9223372036854775807) (h4 : -9223372036854775808 ≤ c) (h5 : c ≤ 9223372036854775807) :
    Calls Tryd.prog 18 #[.agg #[.int .i64 a, .int .i64 b, .int .i64 c]] w fun e w' => e = .returned (.string ⟨(frT a b c).toArray⟩) ∧ Below w.heap.size w w' := by
  by_cases h : b = 0
  · subst h; exact text_zero a c w ht h0 h1
  · exact text_more a b c w ht h h0 h1 h2 h3 h4 h5
theorem rftext_any (a b c : Int) (w : World) (h0 : -9223372036854775808 ≤ a) (h1 : a ≤ 9223372036854775807) (h2 : -9223372036854775808 ≤ b) (h3 : b ≤ 9223372036854775807) (h4 : -9223372036854775808 ≤ c) (h5 : c ≤ 9223372036854775807) :
    Calls Tryd.prog 19 #[.agg #[.int .i64 a, .int .i64 b, .int .i64 c]] w fun e w' => e = .returned (.string ⟨(frT a b c).toArray⟩) ∧ Below w.heap.size w w' := by
  by_cases h : b = 0
  · subst h; exact rtext_zero a c w h0 h1
  · exact rtext_more a b c w h h0 h1 h2 h3 h4 h5
set_option maxHeartbeats 1000000 in
theorem walk0 (a b c : Int) (w : World) (ht : Tab w) (h0 : -9223372036854775808 ≤ a) (h1 : a ≤ 9223372036854775807) (h2 : -9223372036854775808 ≤ b) (h3 : b ≤ 9223372036854775807) (h4 : -9223372036854775808 ≤ c) (h5 : c ≤ 9223372036854775807) :
    Calls Tryd.prog 5 #[.agg #[.int .i64 a, .int .i64 b, .int .i64 c]] w fun e w' => e = .returned (.bool true) ∧ Below w.heap.size w w' := by
  have HA := Lib.hid (fun w => hund_any a b c w h5 h1)
  have HB := Lib.hid (fun w => rhund_any a b c w h5 h1)
  have HC := Lib.hid (fun w t => ftext_any a b c w t h0 h1 h2 h3 h4 h5)
  have HD := Lib.hid (fun w => rftext_any a b c w h0 h1 h2 h3 h4 h5)
  have hT := Lib.hid ht
  clear ht h0 h1 h2 h3 h4 h5
  go_enter Tryd.func5, Tryd.ntmps5
  go_wp2_with fail
  refine (HA.out _).mono ?_
  rintro e w1 ⟨rfl, hb1⟩
  have q1 : Below w.heap.size w w1 := ((Below.refl _ _).alloc (Nat.le_refl _) _).trans (hb1.mono (by simp))
  have k0 : w1.cell? ⟨w.heap.size, 0, none⟩ = some (.int .i64 a) := keep_cell hb1 (World.cell?_alloc_mark w _ _ _ 0)
  have k1 : w1.cell? ⟨w.heap.size, 1, none⟩ = some (.int .i64 b) := keep_cell hb1 (World.cell?_alloc_mark w _ _ _ 1)
  have k2 : w1.cell? ⟨w.heap.size, 2, none⟩ = some (.int .i64 c) := keep_cell hb1 (World.cell?_alloc_mark w _ _ _ 2)
  clear hb1
  go_wp2_with fail
  refine (HB.out _).mono ?_
  rintro e w2 ⟨rfl, hb2⟩
  have q2 : Below w.heap.size w w2 := q1.trans (hb2.mono q1.size)
  have l0 := keep_cell hb2 k0
  have l1 := keep_cell hb2 k1
  have l2 := keep_cell hb2 k2
  clear k0 k1 k2 hb2
  have t2 := Lib.hid (tab_next hT.out q2)
  go_wp2_with fail
  go_region_held3 (fun W => W.cell? ⟨w.heap.size, 0, none⟩ = some (.int .i64 a) ∧ W.cell? ⟨w.heap.size, 1, none⟩ = some (.int .i64 b) ∧ W.cell? ⟨w.heap.size, 2, none⟩ = some (.int .i64 c))
    (go_keep)
    (first
      | (go_at_call 18; refine (HC.out _ (tab_next t2.out ((Below.refl _ _).drew))).mono ?_; rintro e w3 ⟨rfl, hb3⟩; have n0 := Lib.hid (keep_cell hb3 l0); have n1 := Lib.hid (keep_cell hb3 l1); have n2 := Lib.hid (keep_cell hb3 l2); clear l0 l1 l2; have l0 := n0.out; have l1 := n1.out; have l2 := n2.out)
      | (go_at_call 19; refine (HD.out _).mono ?_; rintro e w4 ⟨rfl, hb4⟩; have n0 := Lib.hid (keep_cell hb4 l0); have n1 := Lib.hid (keep_cell hb4 l1); have n2 := Lib.hid (keep_cell hb4 l2); clear l0 l1 l2; have l0 := n0.out; have l1 := n1.out; have l2 := n2.out)
      | (go_at_call 13; refine (alive_any _).mono ?_; rintro e w5 ⟨rfl, hb5⟩; have n0 := Lib.hid (keep_cell hb5 l0); have n1 := Lib.hid (keep_cell hb5 l1); have n2 := Lib.hid (keep_cell hb5 l2); clear l0 l1 l2; have l0 := n0.out; have l1 := n1.out; have l2 := n2.out))
  have q3 : Below w.heap.size w w3 := (q2.drew).trans (hb3.mono (q2.drew).size)
  have q4 : Below w.heap.size w w4 := q3.trans (hb4.mono q3.size)
  have q5 : Below w.heap.size w w5 := q4.trans (hb5.mono q4.size)
  go_wp2_with fail
  go_ret
  exact ⟨rfl, q5⟩
theorem walk {a b c : Int} (w0 : (Lit.int .i64 a).wf = true) (w1 : (Lit.int .i64 b).wf = true) (w2 : (Lit.int .i64 c).wf = true) (w : World) (hL : laidMetH Tryd.prog Rows.fracTextsRow.laid w) :
    Calls Tryd.prog 5 #[.agg #[.int .i64 a, .int .i64 b, .int .i64 c]] w fun e w' => e = .returned (.bool true) ∧ Below w.heap.size w w' := by
  obtain ⟨b0, c0⟩ := bounds_i64 w0
  obtain ⟨b1, c1⟩ := bounds_i64 w1
  obtain ⟨b2, c2⟩ := bounds_i64 w2
  exact walk0 a b c w (tab_of_laid hL) b0 c0 b1 c1 b2 c2

end Go.Proofs.YtbbcohgkiejhjabDoor.fracTexts
