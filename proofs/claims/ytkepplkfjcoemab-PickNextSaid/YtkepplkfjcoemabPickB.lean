/- The law's alive, and whether there may be such weights. -/
import Derived.Test.YtkepplkfjcoemabRows
import Derived.Test.YtkepplkfjcoemabRowKit
import Derived.Test.YtkepplkfjcoemabSlicesEq
import Derived.Test.YtkepplkfjcoemabBlocks
import Derived.Test.YtkepplkfjcoemabWordsA
import Derived.Test.YtkepplkfjcoemabPickMath
import Derived.Test.YtkepplkfjcoemabPickA
import Derived.WalkKit
import Derived.IntWalk
import Derived.Lib.Hide
import Derived.WalkSpells
import Derived.WalkLawsBesides
import Derived.Deep.QuietTactic
import Derived.BigQuiet
namespace Go.Proofs.Ytkepplkfjcoemab
open Go.RowKit
set_option linter.unusedSimpArgs false
set_option linter.unusedVariables false
theorem may_tot {zs : List Int} (h : May zs) : totV zs = ps zs zs.length ∧ totE zs = 0 := tot_ok h.1 h.2.1 h.2.2
theorem may_of {zs : List Int} (h : ¬ totE zs ≠ 0) : May zs := by
  rcases tot_cases zs with ⟨_, e, _⟩ | ⟨_, _, e⟩
  · omega
  · exact e
theorem at_of {zs : List Int} {v : Int} (h : May zs) (hv : 0 ≤ v) (hv' : v ≤ 4294967295) : ∃ m, AtP zs (v * ps zs zs.length / 4294967296) m := by
  obtain ⟨s0, s1⟩ := scaled hv hv' h.2.2
  exact atP_of s0 s1
theorem may3 : May [1, 0, 1] := by
  refine ⟨fun i hi => ?_, by decide, by decide⟩
  match i, hi with
  | 0, _ => decide
  | 1, _ => decide
  | 2, _ => decide
theorem rd3 (w : World) : RdI (w.alloc (.cells #[.int .i64 1, .int .i64 0, .int .i64 1] 3)) .i64 (some ⟨w.heap.size, 0, none⟩) [1, 0, 1] := by
  apply rdI_mk
  intro i hi
  match i, hi with
  | 0, _ => exact ⟨World.cell?_alloc_mark w _ _ _ 0, rfl⟩
  | 1, _ => exact ⟨World.cell?_alloc_mark w _ _ _ 1, rfl⟩
  | 2, _ => exact ⟨World.cell?_alloc_mark w _ _ _ 2, rfl⟩
set_option maxHeartbeats 1000000 in
theorem pkalive (w : World) :
    Calls Try.prog 42 #[] w fun e w' => e = .returned (.bool true) ∧ Below w.heap.size w w' := by
  have H := Lib.hid (of_may (some ⟨w.heap.size, 0, none⟩) 3 [1, 0, 1] 2147483648 2 _ (rd3 w) (by decide) may3 (by decide) (by decide) ⟨by decide, by decide, by decide⟩)
  go_enter Try.func42, Try.ntmps42
  go_wp2_with fail
  refine H.out.mono ?_
  rintro e w' ⟨rfl, rfl⟩
  go_wp2_with fail
  go_ret
  exact ⟨rfl, (Below.refl _ _).alloc (Nat.le_refl _) _⟩
end Go.Proofs.Ytkepplkfjcoemab
