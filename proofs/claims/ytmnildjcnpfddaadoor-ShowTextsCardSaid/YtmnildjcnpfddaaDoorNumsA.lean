/- Contracts of nums.Add, Sub and Size and of the document's, for every pair of numbers. -/
import Derived.Test.YtmnildjcnpfddaaDoorRows
import Derived.Test.YtmnildjcnpfddaaDoorNumsMath
import Derived.WalkKit
import Derived.WalkSpells
import Derived.WalkLawsBesides
namespace Go.Proofs.YtmnildjcnpfddaaDoor
open Go.RowKit

set_option maxHeartbeats 400000 in
theorem rsize_any (a : Int) (w : World) (ha : -9223372036854775808 ≤ a) (ha' : a ≤ 9223372036854775807) :
    Calls Tryd.prog 33 #[.int .i64 a] w fun e w' => e = .returned (.int .u64 a.natAbs) ∧ w = w' := by
  go_enter Tryd.func33, Tryd.ntmps33
  go_wp2
  all_goals
    go_ret
    refine ⟨ret1 ?_, rfl⟩
    try simp only [beq_iff_eq, beq_eq_false_iff_ne, ne_eq] at *
    try simp only [IntKind.wrap_u64, wrap64]
    omega

end Go.Proofs.YtmnildjcnpfddaaDoor
