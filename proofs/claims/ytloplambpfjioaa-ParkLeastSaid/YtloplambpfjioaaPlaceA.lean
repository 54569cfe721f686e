/- Contracts of place.At, Floor, Far, Sign, Dir, Next, Right, Top and of the law's own helpers. -/
import Derived.Test.YtloplambpfjioaaRows
import Derived.Test.YtloplambpfjioaaRowKit
import Derived.Test.YtloplambpfjioaaCmp
import Derived.WalkKit
import Derived.IntWalk
import Derived.Lib.Hide
import Derived.WalkSpells
import Derived.WalkLawsBesides
import Derived.Deep.QuietTactic
import Derived.BigQuiet
namespace Go.Proofs.Ytloplambpfjioaa
open Go.RowKit
set_option linter.unusedSimpArgs false
set_option linter.unusedVariables false
theorem ediv_of {p g q r : Int} (hg : 1 ≤ g) (hr : 0 ≤ r) (hr' : r < g) (e : p = q * g + r) : p / g = q ∧ p % g = r := by
  subst e
  have h0 : g ≠ 0 := by omega
  refine ⟨?_, ?_⟩
  · rw [Int.add_comm, Int.add_mul_ediv_right _ _ h0, Int.ediv_eq_zero_of_lt hr hr']; omega
  · rw [Int.add_comm, Int.add_mul_emod_self_right, Int.emod_eq_of_lt hr hr']
theorem retBool {a b : Bool} (h : a = b) : Ending.returned (.bool a) = .returned (.bool b) := by rw [h]
/-- how far it is -/
def farV (a b : Int) : Int := if a ≤ b then b - a else a - b
set_option maxHeartbeats 400000 in
theorem far_any (a b : Int) (w : World) (h0 : 0 ≤ a) (h1 : a ≤ 1073741824) (h2 : 0 ≤ b) (h3 : b ≤ 1073741824) :
    Calls Try.prog 21 #[.int .i64 a, .int .i64 b] w fun e w' => e = .returned (.int .i64 (farV a b)) ∧ w = w' := by
  rcases Int.lt_trichotomy a b with h | h | h
  · have m1 : max a b = b := by omega
    have m2 : min a b = a := by omega
    have m3 : ¬ b ≤ a := by omega
    have m4 : a ≤ b := by omega
    unfold farV
    rw [if_pos m4]
    go_enter Try.func21, Try.ntmps21
    go_wp2_with fail
    go_ret
    exact ⟨rfl, rfl⟩
  · subst h
    unfold farV
    rw [if_pos (Int.le_refl a), Int.sub_self]
    go_enter Try.func21, Try.ntmps21
    go_wp2_with fail
    all_goals
      go_ret
      exact ⟨rfl, rfl⟩
  · have m1 : max a b = a := by omega
    have m2 : min a b = b := by omega
    have m3 : ¬ a ≤ b := by omega
    unfold farV
    rw [if_neg m3]
    go_enter Try.func21, Try.ntmps21
    go_wp2_with fail
    go_ret
    exact ⟨rfl, rfl⟩
/-- how many ticks it takes to the next floor, and which it is -/
def nxT (g r d : Int) : Int := if r = 0 then 0 else if 0 < d then g - r else r
def nxF (q r d : Int) : Int := if r = 0 then q else if 0 < d then q + 1 else q
end Go.Proofs.Ytloplambpfjioaa
