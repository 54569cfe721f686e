/- Powers: when they fit 64 bits. -/
import Derived.Test.YtjlfflalnjckoaaNumsMath
namespace Go.Proofs.Ytjlfflalnjckoaa
open Go.RowKit
set_option linter.unusedVariables false

theorem pow_red {a : Int} (h : a.natAbs ≤ 1) (k : Nat) : a ^ (k + 3) = a ^ (k + 1) := by
  have e : a ^ (k + 3) = a ^ (k + 1) * (a * a) := by
    rw [Int.pow_succ, Int.pow_succ a (k + 1), Int.mul_assoc]
  rw [e]
  rcases (show a = 0 ∨ a = 1 ∨ a = -1 by omega) with rfl | rfl | rfl
  · simp [Int.pow_succ]
  · simp
  · simp
theorem pow_par {a : Int} (h : a.natAbs ≤ 1) (m : Nat) : a ^ (2 * m + 1) = a ^ 1 ∧ a ^ (2 * m + 2) = a ^ 2 := by
  induction m with
  | zero => exact ⟨rfl, rfl⟩
  | succ m ih =>
    refine ⟨?_, ?_⟩
    · rw [show 2 * (m + 1) + 1 = 2 * m + 3 by omega, pow_red h]; exact ih.1
    · rw [show 2 * (m + 1) + 2 = (2 * m + 1) + 3 by omega, pow_red h]; exact ih.2
theorem pow_small {a : Int} (h : a.natAbs ≤ 1) (n : Nat) (hn : 0 < n) : a ^ n = a ^ (2 - n % 2) := by
  by_cases e : n % 2 = 0
  · have := (pow_par h (n / 2 - 1)).2
    rw [show 2 * (n / 2 - 1) + 2 = n by omega] at this
    rw [this, e]
  · have := (pow_par h (n / 2)).1
    rw [show 2 * (n / 2) + 1 = n by omega] at this
    rw [this, show n % 2 = 1 by omega]
theorem pow_one_le {m : Nat} (h : m ≤ 1) (i : Nat) : m ^ i ≤ 1 := by
  have := Nat.pow_le_pow_left h i
  rwa [Nat.one_pow] at this
theorem natAbs_pow' (a : Int) (n : Nat) : (a ^ n).natAbs = a.natAbs ^ n := Int.natAbs_pow a n
theorem pow_big {a : Int} {i n : Nat} (hi : i ≤ n) (h : a ^ i < -9223372036854775808 ∨ 9223372036854775807 < a ^ i) : a ^ n < -9223372036854775808 ∨ 9223372036854775807 < a ^ n := by
  by_cases hin : i = n
  · subst hin; exact h
  · have h1 := natAbs_pow' a i
    have h2 := natAbs_pow' a n
    have h3 : 2 ≤ a.natAbs := by
      by_cases h : 2 ≤ a.natAbs
      · exact h
      · have := pow_one_le (m := a.natAbs) (by omega) i; omega
    have h4 : a.natAbs ^ (i + 1) ≤ a.natAbs ^ n := Nat.pow_le_pow_right (by omega) (by omega)
    rw [Nat.pow_succ] at h4
    have h5 := Nat.mul_le_mul_left (a.natAbs ^ i) h3
    omega
theorem pow_not {a : Int} (h : 2 ≤ a.natAbs) (n : Nat) (hn : 200 ≤ n) : a ^ n < -9223372036854775808 ∨ 9223372036854775807 < a ^ n := by
  have h2 := natAbs_pow' a n
  have h3 : 2 ^ 64 ≤ a.natAbs ^ n := Nat.le_trans (Nat.pow_le_pow_left h 64) (Nat.pow_le_pow_right (by omega) (by omega))
  have h4 : (2 : Nat) ^ 64 = 18446744073709551616 := by decide
  omega
theorem pow_200 (a : Int) (n : Nat) (hn : 200 < n) : fitN (a ^ (200 + n % 2)) = fitN (a ^ n) ∧ fitB (a ^ (200 + n % 2)) = fitB (a ^ n) := by
  by_cases h : a.natAbs ≤ 1
  · rw [pow_small h (200 + n % 2) (by omega), pow_small h n (by omega), show (200 + n % 2) % 2 = n % 2 by omega]
    exact ⟨rfl, rfl⟩
  · have h1 := pow_not (a := a) (by omega) (200 + n % 2) (by omega)
    have h2 := pow_not (a := a) (by omega) n (by omega)
    rw [(fit_no h1).1, (fit_no h2).1, fitB_no h1, fitB_no h2]
    exact ⟨rfl, rfl⟩
end Go.Proofs.Ytjlfflalnjckoaa
