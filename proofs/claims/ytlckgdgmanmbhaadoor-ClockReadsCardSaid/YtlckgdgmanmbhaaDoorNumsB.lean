/- Contracts of nums.Mul and of the document's: the product, or that there is none. -/
import Derived.Test.YtlckgdgmanmbhaaDoorRows
import Derived.Test.YtlckgdgmanmbhaaDoorNumsMath
import Derived.Test.YtlckgdgmanmbhaaDoorNumsA
import Derived.Test.YtlckgdgmanmbhaaDoorShelf
import Derived.WalkKit
import Derived.Lib.Hide
import Derived.WalkSpells
import Derived.WalkLawsBesides
namespace Go.Proofs.YtlckgdgmanmbhaaDoor
open Go.RowKit
set_option linter.unusedSimpArgs false
set_option linter.unusedVariables false

set_option maxHeartbeats 400000 in
theorem signed_any (s : Int) (b : Bool) (w : World) (h0 : 0 ≤ s) (h1 : s ≤ 18446744073709551615) :
    Calls Tryd.prog 82 #[.int .u64 s, .bool b] w fun e w' => e = .returned (.tuple #[.int .i64 (fitN (sgI b s)), .int .i64 (fitE (sgI b s))]) ∧ w = w' := by
  cases b
  · go_enter Tryd.func82, Tryd.ntmps82
    go_wp2
    all_goals
      go_ret2
      refine ⟨ret_fit ?_, rfl⟩
      try simp only [beq_iff_eq, beq_eq_false_iff_ne, ne_eq] at *
      try simp only [sgI, wrap64, IntKind.wrap_u64, Bool.false_eq_true, if_false, if_true, reduceCtorEq, and_false, and_true, or_false, false_or]
      omega
  · go_enter Tryd.func82, Tryd.ntmps82
    go_wp2
    all_goals
      go_ret2
      refine ⟨ret_fit ?_, rfl⟩
      try simp only [beq_iff_eq, beq_eq_false_iff_ne, ne_eq] at *
      try simp only [sgI, wrap64, IntKind.wrap_u64, Bool.false_eq_true, if_false, if_true, reduceCtorEq, and_false, and_true, or_false, false_or]
      omega

set_option maxHeartbeats 400000 in
theorem mul_any (a b : Int) (w : World) (ha : -9223372036854775808 ≤ a) (ha' : a ≤ 9223372036854775807) (hb : -9223372036854775808 ≤ b) (hb' : b ≤ 9223372036854775807) :
    Calls Tryd.prog 69 #[.int .i64 a, .int .i64 b] w fun e w' => e = .returned (.tuple #[.int .i64 (fitN (a * b)), .int .i64 (fitE (a * b))]) ∧ w = w' := by
  have hp : a.natAbs < 18446744073709551616 := by omega
  have hq : b.natAbs < 18446744073709551616 := by omega
  go_enter Tryd.func69, Tryd.ntmps69
  go_wp2_with (first
    | (go_at_call 81; refine (size_any _ _ (by assumption) (by assumption)).mono ?_; rintro e w' ⟨rfl, rfl⟩)
    | (go_at_call 80; refine (Tryd.bits_Mul64 _ _ hp hq _).mono ?_; rintro e w' ⟨rfl, hw⟩; rw [hw]; clear hw)
    | (go_at_call 82; refine (signed_any _ _ _ (by omega) (by omega)).mono ?_; rintro e w' ⟨rfl, rfl⟩))
  · rename_i h
    have h' : 0 < (a.natAbs : Int) * (b.natAbs : Int) / 18446744073709551616 := by have := mul_ge a b; simp only [bne_iff_ne, ne_eq] at h; omega
    go_ret2
    exact ⟨ret_fit (.inr ⟨mul_out h', rfl, rfl⟩), rfl⟩
  · rename_i h
    have h' : (a.natAbs : Int) * (b.natAbs : Int) / 18446744073709551616 ≤ 0 := by simp only [bne_eq_false_iff_eq] at h; omega
    go_ret2
    refine ⟨?_, rfl⟩
    have e := mul_in h'
    rw [← e]
    rfl

theorem mul_ok (a b n : Int) (w : World) (b0 : -9223372036854775808 ≤ a) (c0 : a ≤ 9223372036854775807) (b1 : -9223372036854775808 ≤ b) (c1 : b ≤ 9223372036854775807)
    (e : a * b = n) (hq : -9223372036854775808 ≤ n ∧ n ≤ 9223372036854775807) : Calls Tryd.prog 69 #[.int .i64 a, .int .i64 b] w fun e w' => e = .returned (.tuple #[.int .i64 n, .int .i64 0]) ∧ w = w' := by
  have := mul_any a b w b0 c0 b1 c1
  rwa [e, (fit_yes hq).1, (fit_yes hq).2] at this
theorem mul_no (a b n : Int) (w : World) (b0 : -9223372036854775808 ≤ a) (c0 : a ≤ 9223372036854775807) (b1 : -9223372036854775808 ≤ b) (c1 : b ≤ 9223372036854775807)
    (e : a * b = n) (hq : n < -9223372036854775808 ∨ 9223372036854775807 < n) : Calls Tryd.prog 69 #[.int .i64 a, .int .i64 b] w fun e w' => e = .returned (.tuple #[.int .i64 0, .int .i64 10]) ∧ w = w' := by
  have := mul_any a b w b0 c0 b1 c1
  rwa [e, (fit_no hq).1, (fit_no hq).2] at this
end Go.Proofs.YtlckgdgmanmbhaaDoor
