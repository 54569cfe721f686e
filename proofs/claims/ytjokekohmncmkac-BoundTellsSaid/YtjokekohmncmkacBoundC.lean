/- Contract of bound.Trip; the example of layer 23. -/
import Derived.Test.YtjokekohmncmkacRows
import Derived.Test.YtjokekohmncmkacRowKit
import Derived.Test.YtjokekohmncmkacRowS
import Derived.Test.YtjokekohmncmkacRowZ
import Derived.Test.YtjokekohmncmkacBlocks
import Derived.Test.YtjokekohmncmkacVetA
import Derived.Test.YtjokekohmncmkacVetB
import Derived.Test.YtjokekohmncmkacBoundA
import Derived.Test.YtjokekohmncmkacBoundB
import Derived.WalkKit
import Derived.IntWalk
import Derived.Lib.Hide
import Derived.Lib.SmallJoins
import Derived.WalkSpells
import Derived.WalkLawsBesides
import Derived.Deep.QuietTactic
import Derived.Deep.RegionHeld3
import Derived.BigQuiet
import Derived.Below
import Derived.Lib.Strings
namespace Go.Proofs.Ytjokekohmncmkac
open Go.RowKit
set_option linter.unusedSimpArgs false
set_option linter.unusedVariables false
theorem sb_of {s0 s1 s2 s3 s4 s5 s6 s7 s10 s11 s12 : Int} (h : NumsOk (numV s0 s1 s2 s3 s4 s5 s6 s7 s10 s11 s12) 11) : SB s0 s1 s3 s4 s5 s6 s7 := by
  have g := fun k (hk : k < 11) => h k hk
  unfold inV at g
  simp only [decide_eq_true_iff] at g
  exact ⟨g 0 (by decide), g 1 (by decide), g 3 (by decide), g 4 (by decide), g 5 (by decide), g 6 (by decide), g 7 (by decide)⟩
set_option maxHeartbeats 400000 in
theorem bdalive (w : World) : Calls Try.prog 31 #[] w fun e w' => e = .returned (.bool true) ∧ Below w.heap.size w w' := by
  have ST := fun A n c w => stop_any 2 1 1 1 1 3 2 4 1 9 1 1 A n c 2 w (by unfold SB; omega) (by omega)
  rw [show stopT 1 3 2 4 2 = 14 by decide] at ST
  have HS := Lib.hid ST
  clear ST
  go_enter Try.func31, Try.ntmps31
  go_wp2_with (go_at_call 29; refine (HS.out _ _ _ _).mono ?_; rintro e w1 ⟨rfl, hb1⟩)
  go_ret
  exact ⟨rfl, ((Below.refl _ _).alloc (Nat.le_refl _) _).trans (Joins.below_le hb1 (by simp))⟩
end Go.Proofs.Ytjokekohmncmkac
