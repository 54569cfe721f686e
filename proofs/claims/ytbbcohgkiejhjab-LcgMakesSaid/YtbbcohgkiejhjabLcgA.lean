/- Contracts of lcg.Step, Jump and Back. -/
import Derived.Test.YtbbcohgkiejhjabRows
import Derived.Test.YtbbcohgkiejhjabLcgMath
import Derived.WalkKit
import Derived.Lib.Hide
import Derived.WalkSpells
import Derived.WalkLawsBesides
import Derived.Deep.QuietTactic
import Derived.BigQuiet
namespace Go.Proofs.Ytbbcohgkiejhjab
open Go.RowKit
set_option linter.unusedSimpArgs false
set_option linter.unusedVariables false
theorem ret1 {k : IntKind} {a b : Int} (h : a = b) : Ending.returned (.int k a) = .returned (.int k b) := by rw [h]
theorem wrap_aff (m c x : Nat) : (((x : Int) * m) % 18446744073709551616 + c) % 18446744073709551616 = ((aff m c x : Nat) : Int) := by
  unfold aff
  rw [Int.emod_add_emod]
  simp only [Int.natCast_emod, Int.natCast_add, Int.natCast_mul]
  rfl
theorem mod64 (x : Nat) : x % 18446744073709551616 < 18446744073709551616 := by omega
theorem w_mul (m x : Nat) : IntKind.u64.wrap ((x : Int) * m) = ((x * m % 18446744073709551616 : Nat) : Int) := by
  rw [IntKind.wrap_u64, Int.natCast_emod, Int.natCast_mul]; rfl
theorem w_aff (m c x : Nat) : IntKind.u64.wrap (IntKind.u64.wrap ((x : Int) * m) + c) = ((aff m c x : Nat) : Int) := by
  rw [IntKind.wrap_u64, IntKind.wrap_u64]; exact wrap_aff m c x
set_option maxHeartbeats 400000 in
theorem step_any (s : Nat) (w : World) (hs : s < 18446744073709551616) :
    Calls Try.prog 38 #[.int .u64 s] w fun e w' => e = .returned (.int .u64 (stp s : Nat)) ∧ w = w' := by
  go_enter Try.func38, Try.ntmps38
  go_wp2
  go_ret
  exact ⟨ret1 (w_aff 6364136223846793005 1442695040888963407 s), rfl⟩
set_option maxHeartbeats 400000 in
theorem alive_any (w : World) :
    Calls Try.prog 39 #[] w fun e w' => e = .returned (.bool true) ∧ w = w' := by
  go_enter Try.func39, Try.ntmps39
  go_wp2
  go_ret
  exact ⟨rfl, rfl⟩
end Go.Proofs.Ytbbcohgkiejhjab
