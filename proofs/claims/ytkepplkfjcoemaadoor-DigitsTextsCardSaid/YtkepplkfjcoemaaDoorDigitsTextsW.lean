/- The walk of DigitsTexts: it answers true for every input, and leaves all old blocks as they were. No condition but the laid tables, which are tied to the text. -/
import Derived.Test.YtkepplkfjcoemaaDoorRows
import Derived.Test.YtkepplkfjcoemaaDoorRowKit
import Derived.Test.YtkepplkfjcoemaaDoorNumsMath
import Derived.Test.YtkepplkfjcoemaaDoorNumsA
import Derived.Test.YtkepplkfjcoemaaDoorDigA
import Derived.Test.YtkepplkfjcoemaaDoorDigB
import Derived.Test.YtkepplkfjcoemaaDoorTab
import Derived.Test.YtkepplkfjcoemaaDoorDigMath
import Derived.Test.YtkepplkfjcoemaaDoorDigC
import Derived.Test.YtkepplkfjcoemaaDoorDigD
import Derived.Test.YtkepplkfjcoemaaDoorDigE
import Derived.WalkKit
import Derived.ProofKit
import Derived.OpenShut
import Derived.Deep.QuietTactic
import Derived.BigQuiet
import Derived.Lib.SmallJoins
import Derived.Lib.Hide
import Derived.WalkSpells
import Derived.WalkLawsBesides
import Derived.IntWalk
import Derived.Lib.LaidU8
import Derived.Lib.LaidTab
namespace Go.Proofs.YtkepplkfjcoemaaDoor.digitsTexts
open Go.ChangeShapes Go.WideShapes Go.ChangeAt Go.RowKit Go.Joins
set_option linter.unusedSimpArgs false
set_option linter.unusedVariables false

theorem gT : Tryd.prog.globalNamed "internal/strconv.uint64pow10" = some 1 := by kernel_rfl
theorem gTType : (Tryd.prog.globals[1]?).map (·.type) = some 85 := by kernel_rfl
theorem tab_of_laid {w : World} (h0 : laidMetH Tryd.prog Rows.digitsTextsRow.laid w) : Tab w := by
  have h : laidMet Tryd.prog Rows.digitsTextsRow.laid w := h0
  obtain ⟨g', t', cs, fuel, p, hg', ht', hvar, hd⟩ := Lib.laidMet.reads h (.tail _ (.tail _ (.head _)))
  obtain rfl := Option.some.inj (gT.symm.trans hg')
  obtain rfl := Option.some.inj (gTType.symm.trans ht')
  unfold Tab Lib.TabIs
  rw [hvar, ← Lib.cells_of_tab (zs := Lib.pow10Tab) Tryd.underlying85 Tryd.underlying32 (by kernel_rfl) (by kernel_rfl) hd]
theorem dof_any (n : Int) (w : World) (ht : Hid (Tab w)) (h0 : -9223372036854775808 ≤ n) (h1 : n ≤ 9223372036854775807) :
    Calls Tryd.prog 12 #[.int .i64 n] w fun e w' => e = .returned (.string ⟨(Lib.itoa n).toArray⟩) ∧ Below w.heap.size w w' :=
  (of_any n w h0 h1 ht.out).mono fun e w' ⟨he, k, os, hw⟩ => ⟨he, by rw [hw]; exact below_grow (below_drewN (Below.refl _ _) _) (Nat.le_refl _) os⟩
set_option maxRecDepth 100000 in
set_option maxHeartbeats 2000000 in
theorem walk0 (n k : Int) (w : World) (ht : Tab w) (n0 : -9223372036854775808 ≤ n) (n1 : n ≤ 9223372036854775807) (k0 : -9223372036854775808 ≤ k) (k1 : k ≤ 9223372036854775807) :
    Calls Tryd.prog 3 #[.int .i64 n, .int .i64 k] w fun e w' => e = .returned (.bool true) ∧ Below w.heap.size w w' := by
  have H1 := fun w => rtext_any n w n0 n1
  have H2 := fun w => read_itoa n w n0 n1
  have H3 := fun w t => dtx_any n w t n0 n1
  have H4 := fun w t => dof_any k w t k0 k1
  have H5 := fun w => rof_any k w k0 k1
  generalize Lib.itoa n = L at H1 H2 H3
  generalize Lib.itoa k = M at H4 H5
  have H1 := Lib.hid H1
  have H2 := Lib.hid H2
  have H3 := Lib.hid H3
  have H4 := Lib.hid H4
  have H5 := Lib.hid H5
  have hT := Lib.hid ht
  clear ht n0 n1 k0 k1
  go_enter Tryd.func3, Tryd.ntmps3
  go_wp2_with fail
  refine (H1.out _).mono ?_
  rintro e w1 ⟨rfl, hb1⟩
  have t1 := Lib.hid (tab_next hT.out hb1)
  go_wp2_with fail
  refine (H2.out _).mono ?_
  rintro e w' ⟨rfl, rfl⟩
  go_wp2_with fail
  refine (H3.out _ t1).mono ?_
  rintro e w2 ⟨rfl, hb2⟩
  have t2 := Lib.hid (tab_next t1.out hb2)
  have q2 := hb1.trans (hb2.mono hb1.size)
  go_wp2_with fail
  refine (H4.out _ t2).mono ?_
  rintro e w3 ⟨rfl, hb3⟩
  have t3 := Lib.hid (tab_next t2.out hb3)
  have q3 := q2.trans (hb3.mono q2.size)
  go_wp2_with fail
  refine (H5.out _).mono ?_
  rintro e w4 ⟨rfl, hb4⟩
  have t4 := Lib.hid (tab_next t3.out hb4)
  have q4 := q3.trans (hb4.mono q3.size)
  go_wp2_with fail
  refine (dgalive _ t4.out).mono ?_
  rintro e w5 ⟨rfl, hb5⟩
  go_wp2_with fail
  go_ret
  exact ⟨rfl, q4.trans (hb5.mono q4.size)⟩
theorem walk {n k : Int} (w0 : (Lit.int .i64 n).wf = true) (w1 : (Lit.int .i64 k).wf = true) (w : World) (hL : laidMetH Tryd.prog Rows.digitsTextsRow.laid w) :
    Calls Tryd.prog 3 #[.int .i64 n, .int .i64 k] w fun e w' => e = .returned (.bool true) ∧ Below w.heap.size w w' := by
  obtain ⟨b0, c0⟩ := bounds_i64 w0
  obtain ⟨b1, c1⟩ := bounds_i64 w1
  exact walk0 n k w (tab_of_laid hL) b0 c0 b1 c1

end Go.Proofs.YtkepplkfjcoemaaDoor.digitsTexts
