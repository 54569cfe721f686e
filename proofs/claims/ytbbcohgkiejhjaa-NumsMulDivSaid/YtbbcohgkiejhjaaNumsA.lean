/- Contracts of nums.Add, Sub and Size and of the document's, for every pair of numbers. -/
import Derived.Test.YtbbcohgkiejhjaaRows
import Derived.Test.YtbbcohgkiejhjaaNumsMath
import Derived.WalkKit
import Derived.WalkSpells
import Derived.WalkLawsBesides
namespace Go.Proofs.Ytbbcohgkiejhjaa
open Go.RowKit

set_option maxHeartbeats 400000 in
theorem alive_any (w : World) :
    Calls Try.prog 11 #[] w fun e w' => e = .returned (.bool true) ∧ w = w' := by
  go_enter Try.func11, Try.ntmps11
  go_wp2
  go_ret
  exact ⟨rfl, rfl⟩
end Go.Proofs.Ytbbcohgkiejhjaa
