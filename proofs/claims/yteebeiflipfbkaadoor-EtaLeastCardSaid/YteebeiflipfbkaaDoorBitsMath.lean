/- Sets of 128 numbers as two words: rows of truth values, bits. -/
import Derived.WalkKit
namespace Go.Proofs.YteebeiflipfbkaaDoor
open Go.RowKit
set_option linter.unusedVariables false
/-- is n in the set of the words x and y? -/
def mem (x y n : Nat) : Bool := if n < 64 then x / 2 ^ n % 2 == 1 else y / 2 ^ (n - 64) % 2 == 1
/-- a row of 128, of which the first k are told -/
def rowC (f : Nat → Bool) (k : Nat) : Array Value := ((List.range 128).map fun j => Value.bool (decide (j < k) && f j)).toArray
theorem rowC_size (f : Nat → Bool) (k : Nat) : (rowC f k).size = 128 := by simp [rowC]
theorem rowC_get (f : Nat → Bool) (k j : Nat) (h : j < 128) : (rowC f k)[j]? = some (.bool (decide (j < k) && f j)) := by
  simp [rowC, h]
theorem rowC_here (f : Nat → Bool) (k : Nat) (h : k < 128) : (rowC f k)[k]? = some (.bool false) := by
  rw [rowC_get f k k h]; simp
theorem rowC_set (f : Nat → Bool) (k : Nat) (b : Bool) (hk : k < 128) (hb : b = f k) : (rowC f k).setIfInBounds k (.bool b) = rowC f (k + 1) := by
  subst hb
  apply Array.ext
  · simp [rowC]
  · intro i h1 h2
    have hi : i < 128 := by simpa [rowC] using h2
    rw [Array.getElem_setIfInBounds (by simpa [rowC] using hi)]
    split
    · rename_i e; subst e; simp [rowC]
    · rename_i e
      simp only [rowC, List.getElem_toArray, List.getElem_map, List.getElem_range]
      congr 2
      rw [decide_eq_decide]; omega
/-- the first word behind k rounds, the second one -/
def wX (x k : Nat) : Nat := x / 2 ^ min k 64
def wY (y k : Nat) : Nat := y / 2 ^ (k - 64)
theorem wX_zero (x : Nat) : wX x 0 = x := by simp [wX]
theorem wY_zero (y : Nat) : wY y 0 = y := by simp [wY]
theorem wX_low (x k : Nat) (h : k < 64) : wX x (k + 1) = wX x k / 2 := by
  unfold wX; rw [show min (k + 1) 64 = min k 64 + 1 by omega, Nat.pow_succ, Nat.div_div_eq_div_mul]
theorem wY_low (y k : Nat) (h : k < 64) : wY y (k + 1) = wY y k := by
  unfold wY; rw [show k + 1 - 64 = k - 64 by omega]
theorem wX_high (x k : Nat) (h : ¬ k < 64) : wX x (k + 1) = wX x k := by
  unfold wX; rw [show min (k + 1) 64 = min k 64 by omega]
theorem wY_high (y k : Nat) (h : ¬ k < 64) : wY y (k + 1) = wY y k / 2 := by
  unfold wY; rw [show k + 1 - 64 = k - 64 + 1 by omega, Nat.pow_succ, Nat.div_div_eq_div_mul]
theorem wX_lt {x : Nat} (k : Nat) (h : x < 18446744073709551616) : wX x k < 18446744073709551616 := Nat.lt_of_le_of_lt (Nat.div_le_self _ _) h
theorem wY_lt {y : Nat} (k : Nat) (h : y < 18446744073709551616) : wY y k < 18446744073709551616 := Nat.lt_of_le_of_lt (Nat.div_le_self _ _) h
theorem mem_low (x y k : Nat) (h : k < 64) : ((wX x k : Int) % 2 == 1) = mem x y k := by
  unfold mem wX; rw [if_pos h, show min k 64 = k by omega]
  generalize x / 2 ^ k = q
  rw [Bool.eq_iff_iff]; simp; omega
theorem mem_high (x y k : Nat) (h : ¬ k < 64) : ((wY y k : Int) % 2 == 1) = mem x y k := by
  unfold mem wY; rw [if_neg h]
  generalize y / 2 ^ (k - 64) = q
  rw [Bool.eq_iff_iff]; simp; omega
/-- a word out of a row, from its top down: t steps -/
def dig (f : Nat → Bool) (top : Nat) : Nat → Nat
  | 0 => 0
  | t + 1 => 2 * dig f top t + (f (top - t)).toNat
theorem dig_lt (f : Nat → Bool) (top t : Nat) : dig f top t < 2 ^ t := by
  induction t with
  | zero => simp [dig]
  | succ t ih => simp only [dig, Nat.pow_succ]; have := Bool.toNat_le (f (top - t)); omega
theorem dig_lt63 (f : Nat → Bool) (top : Nat) {t : Nat} (h : t < 64) : dig f top t < 9223372036854775808 := by
  have := dig_lt f top t
  have h2 : 2 ^ t ≤ 2 ^ 63 := Nat.pow_le_pow_right (by omega) (by omega)
  have : (2 : Nat) ^ 63 = 9223372036854775808 := by decide
  omega
def mX (f : Nat → Bool) (z : Int) : Nat := dig f 63 (63 - z).toNat
def mY (f : Nat → Bool) (z : Int) : Nat := dig f 127 (min 64 (127 - z).toNat)
theorem mX_top (f : Nat → Bool) : mX f 127 = 0 := rfl
theorem mY_top (f : Nat → Bool) : mY f 127 = 0 := rfl
theorem mX_high (f : Nat → Bool) (n : Nat) (h : ¬ n < 64) : mX f ((n : Int) - 1) = mX f n := by
  unfold mX; rw [show (63 - ((n : Int) - 1)).toNat = 0 by omega, show (63 - (n : Int)).toNat = 0 by omega]
theorem mY_high (f : Nat → Bool) (n : Nat) (h : ¬ n < 64) (hn : n < 128) : mY f ((n : Int) - 1) = 2 * mY f n + (f n).toNat := by
  unfold mY; rw [show min 64 (127 - ((n : Int) - 1)).toNat = (127 - n) + 1 by omega, show min 64 (127 - (n : Int)).toNat = 127 - n by omega]
  show 2 * dig f 127 (127 - n) + (f (127 - (127 - n))).toNat = _
  rw [show 127 - (127 - n) = n by omega]
theorem mX_low (f : Nat → Bool) (n : Nat) (h : n < 64) : mX f ((n : Int) - 1) = 2 * mX f n + (f n).toNat := by
  unfold mX; rw [show (63 - ((n : Int) - 1)).toNat = (63 - n) + 1 by omega, show (63 - (n : Int)).toNat = 63 - n by omega]
  show 2 * dig f 63 (63 - n) + (f (63 - (63 - n))).toNat = _
  rw [show 63 - (63 - n) = n by omega]
theorem mY_low (f : Nat → Bool) (n : Nat) (h : n < 64) : mY f ((n : Int) - 1) = mY f n := by
  unfold mY; rw [show min 64 (127 - ((n : Int) - 1)).toNat = 64 by omega]
  by_cases e : n = 63
  · subst e; rfl
  · rw [show min 64 (127 - (n : Int)).toNat = 64 by omega]
theorem mX_bd (f : Nat → Bool) (n : Nat) : mX f n < 9223372036854775808 := dig_lt63 f 63 (by omega)
theorem mY_bd (f : Nat → Bool) (n : Nat) (h : ¬ n < 64) : mY f n < 9223372036854775808 := dig_lt63 f 127 (by omega)
theorem mX_lt (f : Nat → Bool) (z : Int) (h : -1 ≤ z) : mX f z < 18446744073709551616 := by
  have h1 := dig_lt f 63 (63 - z).toNat
  have h2 : 2 ^ (63 - z).toNat ≤ 2 ^ 64 := Nat.pow_le_pow_right (by omega) (by omega)
  have : (2 : Nat) ^ 64 = 18446744073709551616 := by decide
  unfold mX; omega
theorem mY_lt (f : Nat → Bool) (z : Int) : mY f z < 18446744073709551616 := by
  have h1 := dig_lt f 127 (min 64 (127 - z).toNat)
  have h2 : 2 ^ (min 64 (127 - z).toNat) ≤ 2 ^ 64 := Nat.pow_le_pow_right (by omega) (by omega)
  have : (2 : Nat) ^ 64 = 18446744073709551616 := by decide
  unfold mY; omega
theorem dig_bit (f : Nat → Bool) (top : Nat) : ∀ (t j : Nat), t ≤ top + 1 → (dig f top t).testBit j = (decide (j < t) && f (top + 1 - t + j))
  | 0, j, _ => by simp [dig]
  | t + 1, 0, h => by
    simp only [dig, Nat.testBit_zero]
    rw [show top + 1 - (t + 1) + 0 = top - t by omega]
    cases f (top - t) <;> simp
  | t + 1, j + 1, h => by
    rw [Nat.testBit_succ]
    have e : dig f top (t + 1) / 2 = dig f top t := by
      simp only [dig]; have := Bool.toNat_le (f (top - t)); cases f (top - t) <;> simp <;> omega
    rw [e, dig_bit f top t j (by omega), show top + 1 - (t + 1) + (j + 1) = top + 1 - t + j by omega]
    congr 1
    rw [decide_eq_decide]; omega
/-- the words of a set -/
def wordX (F : Nat → Bool) : Nat := mX F (-1)
def wordY (F : Nat → Bool) : Nat := mY F (-1)
theorem wordX_lt (F : Nat → Bool) : wordX F < 18446744073709551616 := mX_lt F (-1) (by omega)
theorem wordY_lt (F : Nat → Bool) : wordY F < 18446744073709551616 := mY_lt F (-1)
theorem wordX_bit (F : Nat → Bool) (j : Nat) : (wordX F).testBit j = (decide (j < 64) && F j) := by
  have := dig_bit F 63 64 j (by omega)
  rw [show 63 + 1 - 64 + j = j by omega] at this
  exact this
theorem wordY_bit (F : Nat → Bool) (j : Nat) : (wordY F).testBit j = (decide (j < 64) && F (64 + j)) := by
  have := dig_bit F 127 64 j (by omega)
  rw [show 127 + 1 - 64 + j = 64 + j by omega] at this
  exact this
theorem lt64_bit {x : Nat} (h : x < 18446744073709551616) (j : Nat) (hj : ¬ j < 64) : x.testBit j = false := by
  apply Nat.testBit_lt_two_pow
  have e : (2 : Nat) ^ 64 = 18446744073709551616 := by decide
  have := Nat.pow_le_pow_right (n := 2) (by omega) (show 64 ≤ j by omega)
  omega
theorem wordX_eq {F : Nat → Bool} {x : Nat} (h : x < 18446744073709551616) (hb : ∀ j, j < 64 → x.testBit j = F j) : wordX F = x := by
  apply Nat.eq_of_testBit_eq
  intro j
  rw [wordX_bit]
  by_cases hj : j < 64
  · simp [hj, hb j hj]
  · simp [hj, lt64_bit h j hj]
theorem wordY_eq {F : Nat → Bool} {y : Nat} (h : y < 18446744073709551616) (hb : ∀ j, j < 64 → y.testBit j = F (64 + j)) : wordY F = y := by
  apply Nat.eq_of_testBit_eq
  intro j
  rw [wordY_bit]
  by_cases hj : j < 64
  · simp [hj, hb j hj]
  · simp [hj, lt64_bit h j hj]
theorem word_mem (x y : Nat) (hx : x < 18446744073709551616) (hy : y < 18446744073709551616) : wordX (mem x y) = x ∧ wordY (mem x y) = y := by
  refine ⟨wordX_eq hx fun j hj => ?_, wordY_eq hy fun j hj => ?_⟩
  · rw [Nat.testBit_eq_decide_div_mod_eq]; unfold mem; rw [if_pos hj, Bool.eq_iff_iff]; simp
  · rw [Nat.testBit_eq_decide_div_mod_eq]; unfold mem; rw [if_neg (by omega), show 64 + j - 64 = j by omega, Bool.eq_iff_iff]; simp
theorem mem_word (F : Nat → Bool) (n : Nat) (h : n < 128) : mem (wordX F) (wordY F) n = F n := by
  unfold mem
  by_cases h1 : n < 64
  · have := wordX_bit F n
    rw [Nat.testBit_eq_decide_div_mod_eq] at this
    rw [if_pos h1]; simp only [h1, decide_true, Bool.true_and] at this
    rw [← this, Bool.eq_iff_iff]; simp
  · have := wordY_bit F (n - 64)
    rw [Nat.testBit_eq_decide_div_mod_eq] at this
    rw [if_neg h1]; simp only [show n - 64 < 64 by omega, decide_true, Bool.true_and, show 64 + (n - 64) = n by omega] at this
    rw [← this, Bool.eq_iff_iff]; simp
/-- two sets with the same numbers -/
theorem word_congr {F G : Nat → Bool} (h : ∀ n, n < 128 → F n = G n) : wordX F = wordX G ∧ wordY F = wordY G :=
  ⟨wordX_eq (wordX_lt G) fun j hj => by rw [wordX_bit, h j (by omega)]; simp [hj],
   wordY_eq (wordY_lt G) fun j hj => by rw [wordY_bit, h (64 + j) (by omega)]; simp [hj]⟩
/-- a set as the program keeps it -/
def setV (F : Nat → Bool) : Value := .agg #[.int .u64 (wordX F), .int .u64 (wordY F)]
theorem setV_congr {F G : Nat → Bool} (h : ∀ n, n < 128 → F n = G n) : setV F = setV G := by
  unfold setV; rw [(word_congr h).1, (word_congr h).2]
theorem setV_mem {x y : Nat} (hx : x < 18446744073709551616) (hy : y < 18446744073709551616) : Value.agg #[.int .u64 x, .int .u64 y] = setV (mem x y) := by
  unfold setV; rw [(word_mem x y hx hy).1, (word_mem x y hx hy).2]
theorem setV_of {F : Nat → Bool} {x y : Nat} (hx : x < 18446744073709551616) (hy : y < 18446744073709551616) (h1 : ∀ j, j < 64 → x.testBit j = F j) (h2 : ∀ j, j < 64 → y.testBit j = F (64 + j)) :
    Value.agg #[.int .u64 x, .int .u64 y] = setV F := by
  unfold setV; rw [wordX_eq hx h1, wordY_eq hy h2]
theorem rowC_congr {F G : Nat → Bool} (h : ∀ n, n < 128 → F n = G n) : rowC F 128 = rowC G 128 := by
  unfold rowC
  congr 1
  apply List.map_congr_left
  intro n hn
  rw [h n (List.mem_range.1 hn)]
end Go.Proofs.YteebeiflipfbkaaDoor
