/- The walk of NumsMulDiv: it answers true for every input, and leaves all old blocks as they were. No condition. -/
import Derived.Test.YtbbcohgkiejhjaaRows
import Derived.Test.YtbbcohgkiejhjaaRowKit
import Derived.Test.YtbbcohgkiejhjaaRowKit
import Derived.Test.YtbbcohgkiejhjaaDivMath
import Derived.Test.YtbbcohgkiejhjaaDivA
import Derived.Test.YtbbcohgkiejhjaaDivB
import Derived.Test.YtbbcohgkiejhjaaNumsMath
import Derived.Test.YtbbcohgkiejhjaaNumsA
import Derived.Test.YtbbcohgkiejhjaaNumsB
import Derived.Test.YtbbcohgkiejhjaaDivC
import Derived.WalkKit
import Derived.ProofKit
import Derived.OpenShut
import Derived.Deep.QuietTactic
import Derived.BigQuiet
import Derived.Lib.SmallJoins
import Derived.Lib.Hide
import Derived.WalkSpells
import Derived.WalkLawsBesides
namespace Go.Proofs.Ytbbcohgkiejhjaa.numsMulDiv
open Go.ChangeShapes Go.WideShapes Go.ChangeAt Go.RowKit Go.Joins
set_option linter.unusedSimpArgs false
set_option linter.unusedVariables false

set_option maxHeartbeats 1000000 in
theorem walk {a b c : Int} (w0 : (Lit.int .i64 a).wf = true) (w1 : (Lit.int .i64 b).wf = true) (w2 : (Lit.int .i64 c).wf = true) (w : World) :
    Calls Try.prog 3 #[.int .i64 a, .int .i64 b, .int .i64 c] w fun e w' => e = .returned (.bool true) ∧ Below w.heap.size w w' := by
  obtain ⟨b0, c0⟩ := bounds_i64 w0
  obtain ⟨b1, c1⟩ := bounds_i64 w1
  obtain ⟨b2, c2⟩ := bounds_i64 w2
  clear w0 w1 w2
  have HA := Lib.hid (fun w => muldiv_any a b c w b0 c0 b1 c1 b2 c2)
  have HB := Lib.hid (fun w => rmuldiv_any a b c w b0 c0 b1 c1 b2 c2)
  clear b0 c0 b1 c1 b2 c2
  go_enter Try.func3, Try.ntmps3
  go_wp2_with (first
    | (go_at_call 9; refine (HA.out _).mono ?_; rintro e w' ⟨rfl, k, rfl⟩)
    | (go_at_call 10; refine (HB.out _).mono ?_; rintro e w' ⟨rfl, l, rfl⟩)
    | (go_at_call 11; refine (alive_any _).mono ?_; rintro e w' ⟨rfl, rfl⟩))
  go_ret
  exact ⟨rfl, below_drewN (Below.refl _ _) _⟩

end Go.Proofs.Ytbbcohgkiejhjaa.numsMulDiv
