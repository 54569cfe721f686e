/- The contract of the document's Compare. -/
import Derived.Test.YtbbcohgkiejhjabDoorRows
import Derived.Test.YtbbcohgkiejhjabDoorNumsMath
import Derived.Test.YtbbcohgkiejhjabDoorNumsA
import Derived.Test.YtbbcohgkiejhjabDoorNumsB
import Derived.Test.YtbbcohgkiejhjabDoorRowKit
import Derived.Test.YtbbcohgkiejhjabDoorFracA
import Derived.Test.YtbbcohgkiejhjabDoorFracC
import Derived.WalkKit
import Derived.Lib.Hide
import Derived.WalkSpells
import Derived.WalkLawsBesides
import Derived.Deep.QuietTactic
import Derived.BigQuiet
namespace Go.Proofs.YtbbcohgkiejhjabDoor
open Go.RowKit
set_option linter.unusedSimpArgs false
set_option linter.unusedVariables false
set_option maxHeartbeats 1000000 in
theorem rcompare_any (a b c d e f : Nat) (w : World) (ha : a ≤ 9223372036854775807) (hb : b ≤ 9223372036854775807) (hc : c ≤ 9223372036854775807) (hd : d ≤ 9223372036854775807) (he : e ≤ 9223372036854775807) (hf : f ≤ 9223372036854775807) :
    Calls Tryd.prog 15 #[.agg #[.int .i64 a, .int .i64 b, .int .i64 c], .agg #[.int .i64 d, .int .i64 e, .int .i64 f]] w fun r w' => r = .returned (.int .i64 (rcB a d ((b : Int) * f / 18446744073709551616) ((e : Int) * c / 18446744073709551616) ((b : Int) * f % 18446744073709551616) ((e : Int) * c % 18446744073709551616))) ∧ Below w.heap.size w w' := by
  go_enter Tryd.func15, Tryd.ntmps15
  go_wp2_with fail
  refine (times_any b f _ (by omega) (by omega)).mono ?_
  rintro r w' ⟨rfl, rfl⟩
  go_wp2_with fail
  refine (times_any e c _ (by omega) (by omega)).mono ?_
  rintro r w' ⟨rfl, rfl⟩
  go_wp2_with fail
  all_goals
    go_ret
    refine ⟨ret1 ?_, ((Below.refl _ _).alloc (Nat.le_refl _) _).alloc (by simp) _⟩
    generalize (b : Int) * f / 18446744073709551616 = h at *
    generalize (e : Int) * c / 18446744073709551616 = k at *
    generalize (b : Int) * f % 18446744073709551616 = l at *
    generalize (e : Int) * c % 18446744073709551616 = m at *
    try simp only [beq_iff_eq, beq_eq_false_iff_ne, ne_eq] at *
    unfold rcB
    repeat' split
    all_goals omega
end Go.Proofs.YtbbcohgkiejhjabDoor
