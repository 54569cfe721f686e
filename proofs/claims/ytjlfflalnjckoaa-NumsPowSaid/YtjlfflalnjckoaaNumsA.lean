/- Contracts of nums.Add, Sub and Size and of the document's, for every pair of numbers. -/
import Derived.Test.YtjlfflalnjckoaaRows
import Derived.Test.YtjlfflalnjckoaaNumsMath
import Derived.WalkKit
import Derived.WalkSpells
import Derived.WalkLawsBesides
namespace Go.Proofs.Ytjlfflalnjckoaa
open Go.RowKit

set_option maxHeartbeats 400000 in
theorem add_any (a b : Int) (w : World) (ha : -9223372036854775808 ≤ a) (ha' : a ≤ 9223372036854775807) (hb : -9223372036854775808 ≤ b) (hb' : b ≤ 9223372036854775807) :
    Calls Try.prog 9 #[.int .i64 a, .int .i64 b] w fun e w' => e = .returned (.tuple #[.int .i64 (fitN (a + b)), .int .i64 (fitE (a + b))]) ∧ w = w' := by
  go_enter Try.func9, Try.ntmps9
  go_wp2
  all_goals
    go_ret2
    refine ⟨?_, rfl⟩
    simp only [Bool.not_eq_true', Bool.not_eq_false', beq_iff_eq, beq_eq_false_iff_ne, decide_eq_decide, ne_eq] at *
    first
      | (refine ret2 ?_ ?_
         · rw [(fit_yes (n := a + b) (by first | omega | (simp only [wrap64] at *; omega))).1]; first | omega | (simp only [wrap64] at *; omega)
         · rw [(fit_yes (n := a + b) (by first | omega | (simp only [wrap64] at *; omega))).2])
      | (refine ret2 ?_ ?_
         · rw [(fit_no (n := a + b) (by first | omega | (simp only [wrap64] at *; omega))).1]
         · rw [(fit_no (n := a + b) (by first | omega | (simp only [wrap64] at *; omega))).2])

set_option maxHeartbeats 400000 in
theorem sub_any (a b : Int) (w : World) (ha : -9223372036854775808 ≤ a) (ha' : a ≤ 9223372036854775807) (hb : -9223372036854775808 ≤ b) (hb' : b ≤ 9223372036854775807) :
    Calls Try.prog 10 #[.int .i64 a, .int .i64 b] w fun e w' => e = .returned (.tuple #[.int .i64 (fitN (a - b)), .int .i64 (fitE (a - b))]) ∧ w = w' := by
  go_enter Try.func10, Try.ntmps10
  go_wp2
  all_goals
    go_ret2
    refine ⟨?_, rfl⟩
    simp only [Bool.not_eq_true', Bool.not_eq_false', beq_iff_eq, beq_eq_false_iff_ne, decide_eq_decide, ne_eq] at *
    first
      | (refine ret2 ?_ ?_
         · rw [(fit_yes (n := a - b) (by first | omega | (simp only [wrap64] at *; omega))).1]; first | omega | (simp only [wrap64] at *; omega)
         · rw [(fit_yes (n := a - b) (by first | omega | (simp only [wrap64] at *; omega))).2])
      | (refine ret2 ?_ ?_
         · rw [(fit_no (n := a - b) (by first | omega | (simp only [wrap64] at *; omega))).1]
         · rw [(fit_no (n := a - b) (by first | omega | (simp only [wrap64] at *; omega))).2])

set_option maxHeartbeats 400000 in
theorem size_any (a : Int) (w : World) (ha : -9223372036854775808 ≤ a) (ha' : a ≤ 9223372036854775807) :
    Calls Try.prog 14 #[.int .i64 a] w fun e w' => e = .returned (.int .u64 a.natAbs) ∧ w = w' := by
  go_enter Try.func14, Try.ntmps14
  go_wp2
  all_goals
    go_ret
    refine ⟨ret1 ?_, rfl⟩
    try simp only [IntKind.wrap_u64]
    omega

set_option maxHeartbeats 400000 in
theorem rsize_any (a : Int) (w : World) (ha : -9223372036854775808 ≤ a) (ha' : a ≤ 9223372036854775807) :
    Calls Try.prog 15 #[.int .i64 a] w fun e w' => e = .returned (.int .u64 a.natAbs) ∧ w = w' := by
  go_enter Try.func15, Try.ntmps15
  go_wp2
  all_goals
    go_ret
    refine ⟨ret1 ?_, rfl⟩
    try simp only [beq_iff_eq, beq_eq_false_iff_ne, ne_eq] at *
    try simp only [IntKind.wrap_u64, wrap64]
    omega

set_option maxHeartbeats 400000 in
theorem radd_any (a b : Int) (w : World) (ha : -9223372036854775808 ≤ a) (ha' : a ≤ 9223372036854775807) (hb : -9223372036854775808 ≤ b) (hb' : b ≤ 9223372036854775807) :
    Calls Try.prog 11 #[.int .i64 a, .int .i64 b] w fun e w' => e = .returned (.tuple #[.int .i64 (fitN (a + b)), .bool (fitB (a + b))]) ∧ w = w' := by
  go_enter Try.func11, Try.ntmps11
  go_wp2
  all_goals
    go_ret2
    refine ⟨?_, rfl⟩
    first
      | exact ret2b (fit_yes (by omega)).1.symm (fitB_yes (by omega)).symm
      | exact ret2b (fit_no (by omega)).1.symm (fitB_no (by omega)).symm

set_option maxHeartbeats 400000 in
theorem rsub_any (a b : Int) (w : World) (ha : -9223372036854775808 ≤ a) (ha' : a ≤ 9223372036854775807) (hb : -9223372036854775808 ≤ b) (hb' : b ≤ 9223372036854775807) :
    Calls Try.prog 12 #[.int .i64 a, .int .i64 b] w fun e w' => e = .returned (.tuple #[.int .i64 (fitN (a - b)), .bool (fitB (a - b))]) ∧ w = w' := by
  go_enter Try.func12, Try.ntmps12
  go_wp2
  all_goals
    go_ret2
    refine ⟨?_, rfl⟩
    first
      | exact ret2b (fit_yes (by omega)).1.symm (fitB_yes (by omega)).symm
      | exact ret2b (fit_no (by omega)).1.symm (fitB_no (by omega)).symm

set_option maxHeartbeats 400000 in
theorem is_fit (n : Int) (w : World) :
    Calls Try.prog 13 #[.int .i64 (fitN n), .int .i64 (fitE n), .int .i64 (fitN n), .bool (fitB n)] w fun e w' => e = .returned (.bool true) ∧ w = w' := by
  have hw := fitN_wf n
  unfold fitN fitE at *
  cases h : fitB n
  · simp only [h] at *
    go_enter Try.func13, Try.ntmps13
    go_wp2
    go_ret
    exact ⟨rfl, rfl⟩
  · simp only [h] at *
    go_enter Try.func13, Try.ntmps13
    go_wp2
    go_ret
    exact ⟨rfl, rfl⟩

set_option maxHeartbeats 400000 in
theorem alive_any (w : World) :
    Calls Try.prog 16 #[] w fun e w' => e = .returned (.bool true) ∧ w = w' := by
  go_enter Try.func16, Try.ntmps16
  go_wp2
  go_ret
  exact ⟨rfl, rfl⟩
end Go.Proofs.Ytjlfflalnjckoaa
