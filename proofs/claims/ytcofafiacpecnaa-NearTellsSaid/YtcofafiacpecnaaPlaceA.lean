/- Contracts of place.At, Floor, Far, Sign, Dir, Next, Right, Top and of the law's own helpers. -/
import Derived.Test.YtcofafiacpecnaaRows
import Derived.Test.YtcofafiacpecnaaRowKit
import Derived.Test.YtcofafiacpecnaaCmp
import Derived.WalkKit
import Derived.IntWalk
import Derived.Lib.Hide
import Derived.WalkSpells
import Derived.WalkLawsBesides
import Derived.Deep.QuietTactic
import Derived.BigQuiet
namespace Go.Proofs.Ytcofafiacpecnaa
open Go.RowKit
set_option linter.unusedSimpArgs false
set_option linter.unusedVariables false
theorem ediv_of {p g q r : Int} (hg : 1 ≤ g) (hr : 0 ≤ r) (hr' : r < g) (e : p = q * g + r) : p / g = q ∧ p % g = r := by
  subst e
  have h0 : g ≠ 0 := by omega
  refine ⟨?_, ?_⟩
  · rw [Int.add_comm, Int.add_mul_ediv_right _ _ h0, Int.ediv_eq_zero_of_lt hr hr']; omega
  · rw [Int.add_comm, Int.add_mul_emod_self_right, Int.emod_eq_of_lt hr hr']
theorem retBool {a b : Bool} (h : a = b) : Ending.returned (.bool a) = .returned (.bool b) := by rw [h]
set_option maxHeartbeats 400000 in
theorem at_any (f g m : Int) (w : World) (e : f * g = m) (h0 : -9223372036854775808 ≤ m) (h1 : m ≤ 9223372036854775807) :
    Calls Try.prog 78 #[.int .i64 f, .int .i64 g] w fun e w' => e = .returned (.int .i64 m) ∧ w = w' := by
  have hw : IntKind.i64.wrap (f * g) = m := by rw [e]; exact IntWalk.i64_in _ (by omega)
  go_enter Try.func78, Try.ntmps78
  go_wp2_with fail
  go_ret
  exact ⟨rfl, rfl⟩
/-- how far it is -/
def farV (a b : Int) : Int := if a ≤ b then b - a else a - b
set_option maxHeartbeats 400000 in
theorem far_any (a b : Int) (w : World) (h0 : 0 ≤ a) (h1 : a ≤ 1073741824) (h2 : 0 ≤ b) (h3 : b ≤ 1073741824) :
    Calls Try.prog 79 #[.int .i64 a, .int .i64 b] w fun e w' => e = .returned (.int .i64 (farV a b)) ∧ w = w' := by
  rcases Int.lt_trichotomy a b with h | h | h
  · have m1 : max a b = b := by omega
    have m2 : min a b = a := by omega
    have m3 : ¬ b ≤ a := by omega
    have m4 : a ≤ b := by omega
    unfold farV
    rw [if_pos m4]
    go_enter Try.func79, Try.ntmps79
    go_wp2_with fail
    go_ret
    exact ⟨rfl, rfl⟩
  · subst h
    unfold farV
    rw [if_pos (Int.le_refl a), Int.sub_self]
    go_enter Try.func79, Try.ntmps79
    go_wp2_with fail
    all_goals
      go_ret
      exact ⟨rfl, rfl⟩
  · have m1 : max a b = a := by omega
    have m2 : min a b = b := by omega
    have m3 : ¬ a ≤ b := by omega
    unfold farV
    rw [if_neg m3]
    go_enter Try.func79, Try.ntmps79
    go_wp2_with fail
    go_ret
    exact ⟨rfl, rfl⟩
/-- how many ticks it takes to the next floor, and which it is -/
def nxT (g r d : Int) : Int := if r = 0 then 0 else if 0 < d then g - r else r
def nxF (q r d : Int) : Int := if r = 0 then q else if 0 < d then q + 1 else q
set_option maxHeartbeats 400000 in
theorem top_any (f g m : Int) (w : World) (e : (f - 1) * g = m) (h : -1073741824 ≤ f) (h' : f ≤ 1073741824) (h0 : -9223372036854775808 ≤ m) (h1 : m ≤ 9223372036854775807) :
    Calls Try.prog 80 #[.int .i64 f, .int .i64 g] w fun e w' => e = .returned (.int .i64 m) ∧ w = w' := by
  have HA := Lib.hid (fun w => at_any (f - 1) g m w e h0 h1)
  clear e
  go_enter Try.func80, Try.ntmps80
  go_wp2_with (go_at_call 78; refine (HA.out _).mono ?_; rintro e w' ⟨rfl, rfl⟩)
  go_ret
  exact ⟨rfl, rfl⟩
set_option maxHeartbeats 400000 in
theorem dir_any (a b : Int) (w : World) :
    Calls Try.prog 81 #[.int .i64 a, .int .i64 b] w fun e w' => e = .returned (.int .i64 (cmpI b a)) ∧ w = w' := by
  go_enter Try.func81, Try.ntmps81
  go_wp2_with (go_at_call 107; refine (compareI _ _ _).mono ?_; rintro e w' ⟨rfl, rfl⟩)
  go_ret
  exact ⟨rfl, rfl⟩
end Go.Proofs.Ytcofafiacpecnaa
