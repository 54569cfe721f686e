/- Contracts of the program's sets: up, down, Shift. -/
import Derived.Test.YteebeiflipfbkaaDoorRows
import Derived.Test.YteebeiflipfbkaaDoorRowKit
import Derived.Test.YteebeiflipfbkaaDoorBlocks
import Derived.Test.YteebeiflipfbkaaDoorBitsMath
import Derived.Test.YteebeiflipfbkaaDoorBitsA2
import Derived.Test.YteebeiflipfbkaaDoorBitsD
import Derived.WalkKit
import Derived.IntWalk
import Derived.Lib.Hide
import Derived.WalkSpells
import Derived.WalkLawsBesides
import Derived.Laws.CopyOwn
import Derived.Deep.QuietTactic
import Derived.BigQuiet
import Derived.BigRegion
namespace Go.Proofs.YteebeiflipfbkaaDoor
open Go.RowKit
set_option linter.unusedSimpArgs false
set_option linter.unusedVariables false
/-- the set, greater by k -/
def shF (F : Nat → Bool) (k : Int) (j : Nat) : Bool := decide (0 ≤ (j : Int) - k) && decide ((j : Int) - k < 128) && F ((j : Int) - k).toNat
theorem two64 : (18446744073709551616 : Nat) = 2 ^ 64 := by decide
theorem shl_bit (x k j : Nat) : (x * 2 ^ k % 18446744073709551616).testBit j = (decide (j < 64) && (decide (k ≤ j) && x.testBit (j - k))) := by
  rw [two64, Nat.testBit_mod_two_pow, Nat.testBit_mul_two_pow]
theorem shr_bit (x k j : Nat) : (x / 2 ^ k).testBit j = x.testBit (k + j) := by
  rw [Nat.testBit_div_two_pow, Nat.add_comm]
theorem shl_lt (x k : Nat) : x * 2 ^ k % 18446744073709551616 < 18446744073709551616 := Nat.mod_lt _ (by omega)
theorem shr_lt {x : Nat} (k : Nat) (h : x < 18446744073709551616) : x / 2 ^ k < 18446744073709551616 := Nat.lt_of_le_of_lt (Nat.div_le_self _ _) h
theorem up_low (F : Nat → Bool) (k : Nat) (hk : k < 64) : Value.agg #[.int .u64 ((wordX F * 2 ^ k % 18446744073709551616 : Nat) : Int), .int .u64 ((wordY F * 2 ^ k % 18446744073709551616 ||| wordX F / 2 ^ (64 - k) : Nat) : Int)] = setV (shF F k) := by
  refine setV_of (shl_lt _ _) (or_lt64 (shl_lt _ _) (shr_lt _ (wordX_lt F))) (fun j hj => ?_) (fun j hj => ?_)
  · rw [shl_bit, wordX_bit]
    unfold shF
    by_cases h : k ≤ j
    · rw [show ((j : Int) - k).toNat = j - k by omega]
      simp [hj, h, show j - k < 64 by omega, show (0 : Int) ≤ (j : Int) - k by omega, show (j : Int) - k < 128 by omega]
    · simp [h, show ¬ (0 : Int) ≤ (j : Int) - k by omega]
  · rw [Nat.testBit_or, shl_bit, shr_bit, wordY_bit, wordX_bit]
    unfold shF
    rw [show ((((64 + j : Nat) : Int)) - k).toNat = 64 + j - k by omega]
    have h1 : (0 : Int) ≤ ((64 + j : Nat) : Int) - k := by omega
    have h2 : ((64 + j : Nat) : Int) - k < 128 := by omega
    by_cases h : k ≤ j
    · simp only [hj, h, h1, h2, decide_true, Bool.true_and, show j - k < 64 by omega, show ¬ (64 - k + j < 64) by omega, decide_false, Bool.false_and, Bool.or_false, show 64 + (j - k) = 64 + j - k by omega]
    · simp only [hj, h, h1, h2, decide_true, Bool.true_and, decide_false, Bool.false_and, Bool.and_false, Bool.false_or, show 64 + j - k < 64 by omega, show 64 - k + j = 64 + j - k by omega]
theorem up_high (F : Nat → Bool) (k : Nat) (hk : k ≤ 64) : Value.agg #[.int .u64 0, .int .u64 ((wordX F * 2 ^ k % 18446744073709551616 : Nat) : Int)] = setV (shF F ((64 + k : Nat) : Int)) := by
  refine setV_of (x := 0) (by omega) (shl_lt _ _) (fun j hj => ?_) (fun j hj => ?_)
  · unfold shF
    simp only [show ¬ (0 : Int) ≤ (j : Int) - ((64 + k : Nat) : Int) by omega, decide_false, Bool.false_and, Bool.and_false, Nat.zero_testBit]
  · rw [shl_bit, wordX_bit]
    unfold shF
    by_cases h : k ≤ j
    · rw [show (((64 + j : Nat) : Int) - ((64 + k : Nat) : Int)).toNat = j - k by omega]
      simp only [hj, h, show j - k < 64 by omega, show (0 : Int) ≤ ((64 + j : Nat) : Int) - ((64 + k : Nat) : Int) by omega, show ((64 + j : Nat) : Int) - ((64 + k : Nat) : Int) < 128 by omega, decide_true, Bool.true_and]
    · simp only [h, show ¬ (0 : Int) ≤ ((64 + j : Nat) : Int) - ((64 + k : Nat) : Int) by omega, decide_false, Bool.false_and, Bool.and_false]
theorem down_low (F : Nat → Bool) (k : Nat) (hk : k < 64) : Value.agg #[.int .u64 ((wordX F / 2 ^ k ||| wordY F * 2 ^ (64 - k) % 18446744073709551616 : Nat) : Int), .int .u64 ((wordY F / 2 ^ k : Nat) : Int)] = setV (shF F (-(k : Int))) := by
  refine setV_of (or_lt64 (shr_lt _ (wordX_lt F)) (shl_lt _ _)) (shr_lt _ (wordY_lt F)) (fun j hj => ?_) (fun j hj => ?_)
  · rw [Nat.testBit_or, shl_bit, shr_bit, wordY_bit, wordX_bit]
    unfold shF
    rw [show ((j : Int) - -(k : Int)).toNat = k + j by omega]
    have h1 : (0 : Int) ≤ (j : Int) - -(k : Int) := by omega
    have h2 : (j : Int) - -(k : Int) < 128 := by omega
    by_cases h : k + j < 64
    · simp only [hj, h, h1, h2, decide_true, Bool.true_and, show ¬ (64 - k ≤ j) by omega, decide_false, Bool.false_and, Bool.or_false]
    · simp only [hj, h, h1, h2, decide_true, Bool.true_and, decide_false, Bool.false_and, Bool.false_or, show 64 - k ≤ j by omega, show j - (64 - k) < 64 by omega, show 64 + (j - (64 - k)) = k + j by omega]
  · rw [shr_bit, wordY_bit]
    unfold shF
    have h1 : (0 : Int) ≤ ((64 + j : Nat) : Int) - -(k : Int) := by omega
    by_cases h : k + j < 64
    · rw [show (((64 + j : Nat) : Int) - -(k : Int)).toNat = 64 + (k + j) by omega]
      simp only [h, h1, show ((64 + j : Nat) : Int) - -(k : Int) < 128 by omega, decide_true, Bool.true_and]
    · simp only [h, show ¬ ((64 + j : Nat) : Int) - -(k : Int) < 128 by omega, decide_false, Bool.false_and, Bool.and_false]
theorem down_high (F : Nat → Bool) (k : Nat) (hk : k ≤ 64) : Value.agg #[.int .u64 ((wordY F / 2 ^ k : Nat) : Int), .int .u64 0] = setV (shF F (-((64 + k : Nat) : Int))) := by
  refine setV_of (y := 0) (shr_lt _ (wordY_lt F)) (by omega) (fun j hj => ?_) (fun j hj => ?_)
  · rw [shr_bit, wordY_bit]
    unfold shF
    have h1 : (0 : Int) ≤ (j : Int) - -((64 + k : Nat) : Int) := by omega
    by_cases h : k + j < 64
    · rw [show ((j : Int) - -((64 + k : Nat) : Int)).toNat = 64 + (k + j) by omega]
      simp only [h, h1, show (j : Int) - -((64 + k : Nat) : Int) < 128 by omega, decide_true, Bool.true_and]
    · simp only [h, show ¬ (j : Int) - -((64 + k : Nat) : Int) < 128 by omega, decide_false, Bool.false_and, Bool.and_false]
  · unfold shF
    simp only [show ¬ ((64 + j : Nat) : Int) - -((64 + k : Nat) : Int) < 128 by omega, decide_false, Bool.false_and, Bool.and_false, Nat.zero_testBit]
theorem wrap_mul (x k : Nat) : IntKind.u64.wrap ((x : Int) * 2 ^ k) = ((x * 2 ^ k % 18446744073709551616 : Nat) : Int) := by
  rw [IntKind.wrap_u64, Int.natCast_emod, Int.natCast_mul, Int.natCast_pow]; rfl
theorem div_pow (x k : Nat) : (x : Int) / 2 ^ k = ((x / 2 ^ k : Nat) : Int) := by
  rw [Int.natCast_ediv, Int.natCast_pow]; rfl
theorem shF_far (F : Nat → Bool) {k : Int} (h : k < -128 ∨ 128 < k) : setV (shF F k) = setV (shF F (if k < 0 then -128 else 128)) := setV_congr fun j hj => by
  unfold shF
  split
  · simp only [show ¬ (j : Int) - k < 128 by omega, show ¬ (j : Int) - -128 < 128 by omega, decide_false, Bool.false_and, Bool.and_false]
  · simp only [show ¬ (0 : Int) ≤ (j : Int) - k by omega, show ¬ (0 : Int) ≤ (j : Int) - 128 by omega, decide_false, Bool.false_and]
end Go.Proofs.YteebeiflipfbkaaDoor
