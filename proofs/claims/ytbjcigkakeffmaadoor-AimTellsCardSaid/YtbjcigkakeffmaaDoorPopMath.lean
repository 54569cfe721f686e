/- How many bits a word has: the sums of Hacker's Delight, over bytes. -/
import Derived.WalkKit
namespace Go.Proofs.YtbjcigkakeffmaaDoor
open Go.RowKit
set_option linter.unusedVariables false
/-- how many of the first k numbers f says yes to -/
def cn (f : Nat → Bool) : Nat → Nat
  | 0 => 0
  | k + 1 => cn f k + (f k).toNat
theorem cn_congr {f g : Nat → Bool} : ∀ k, (∀ j, j < k → f j = g j) → cn f k = cn g k
  | 0, _ => rfl
  | k + 1, h => by show cn f k + _ = cn g k + _; rw [cn_congr k fun j hj => h j (by omega), h k (by omega)]
theorem cn_add (f : Nat → Bool) (a : Nat) : ∀ k, cn f (a + k) = cn f a + cn (fun j => f (a + j)) k
  | 0 => rfl
  | k + 1 => by show cn f (a + k) + (f (a + k)).toNat = cn f a + (cn (fun j => f (a + j)) k + (f (a + k)).toNat); rw [cn_add f a k]; omega
theorem cn_le (f : Nat → Bool) : ∀ k, cn f k ≤ k
  | 0 => Nat.le_refl _
  | k + 1 => by have := cn_le f k; have := Bool.toNat_le (f k); show cn f k + _ ≤ _; omega
/-- the masks, byte by byte -/
def mk (m : Nat) : Nat → Nat
  | 0 => 0
  | n + 1 => 2 ^ 8 * mk m n + m
theorem and_byte (b y k m M : Nat) (hb : b < 2 ^ 8) (hk : k ≤ 8) (hm : m < 2 ^ (8 - k)) : ((2 ^ 8 * y + b) >>> k) &&& (2 ^ 8 * M + m) = 2 ^ 8 * ((y >>> k) &&& M) + ((b >>> k) &&& m) := by
  have hm8 : m < 2 ^ 8 := Nat.lt_of_lt_of_le hm (Nat.pow_le_pow_right (by omega) (by omega))
  have hr : (b >>> k) &&& m < 2 ^ 8 := Nat.lt_of_le_of_lt Nat.and_le_right hm8
  apply Nat.eq_of_testBit_eq
  intro j
  rw [Nat.testBit_and, Nat.testBit_shiftRight, Nat.testBit_two_pow_mul_add _ hb, Nat.testBit_two_pow_mul_add _ hm8, Nat.testBit_two_pow_mul_add _ hr]
  by_cases hj : j < 8
  · rw [if_pos hj, if_pos hj, Nat.testBit_and, Nat.testBit_shiftRight]
    by_cases h2 : k + j < 8
    · rw [if_pos h2]
    · have : m.testBit j = false := Nat.testBit_lt_two_pow (Nat.lt_of_lt_of_le hm (Nat.pow_le_pow_right (by omega) (by omega)))
      rw [this, Bool.and_false, Bool.and_false]
  · rw [if_neg hj, if_neg hj, if_neg (by omega), Nat.testBit_and, Nat.testBit_shiftRight, show k + j - 8 = k + (j - 8) by omega]
/-- a step: so many bits on, and as it is, under a mask -/
def st (k m n x : Nat) : Nat := ((x >>> k) &&& mk m n) + (x &&& mk m n)
def sb (k m b : Nat) : Nat := ((b >>> k) &&& m) + (b &&& m)
theorem split8 (x : Nat) : x = 2 ^ 8 * (x / 256) + x % 256 := by omega
theorem st_succ (k m n x : Nat) (hk : k ≤ 8) (hm : m < 2 ^ (8 - k)) : st k m (n + 1) x = 2 ^ 8 * st k m n (x / 256) + sb k m (x % 256) := by
  have h1 := and_byte (x % 256) (x / 256) k m (mk m n) (by omega) hk hm
  have h0 := and_byte (x % 256) (x / 256) 0 m (mk m n) (by omega) (by omega) (Nat.lt_of_lt_of_le hm (Nat.pow_le_pow_right (by omega) (by omega)))
  rw [Nat.shiftRight_zero, Nat.shiftRight_zero, Nat.shiftRight_zero] at h0
  rw [← split8 x] at h1 h0
  unfold st sb
  show ((x >>> k) &&& (2 ^ 8 * mk m n + m)) + (x &&& (2 ^ 8 * mk m n + m)) = _
  rw [h1, h0]
  omega
theorem byte1 : ∀ b : Fin 256, sb 1 85 b.val < 256 ∧ sb 2 51 (sb 1 85 b.val) < 256 ∧ sb 2 51 (sb 1 85 b.val) % 16 ≤ 4 ∧ sb 2 51 (sb 1 85 b.val) / 16 ≤ 4 ∧
    sb 2 51 (sb 1 85 b.val) % 16 + sb 2 51 (sb 1 85 b.val) / 16 = cn (fun j => b.val.testBit j) 8 := by decide +kernel
/-- the word behind two steps -/
def s2 (n x : Nat) : Nat := st 2 51 n (st 1 85 n x)
theorem s2_zero (x : Nat) : s2 0 x = 0 := by unfold s2 st mk; simp
theorem s2_succ (n x : Nat) : s2 (n + 1) x = 2 ^ 8 * s2 n (x / 256) + sb 2 51 (sb 1 85 (x % 256)) := by
  have hb := (byte1 ⟨x % 256, by omega⟩).1
  unfold s2
  rw [st_succ 2 51 n _ (by omega) (by decide), st_succ 1 85 n x (by omega) (by decide)]
  generalize st 1 85 n (x / 256) = y at *
  generalize sb 1 85 (x % 256) = b at *
  rw [show (2 ^ 8 * y + b) / 256 = y by omega, show (2 ^ 8 * y + b) % 256 = b by omega]
theorem s2_low : ∀ n x, s2 n x % 16 ≤ 4
  | 0, x => by rw [s2_zero]; omega
  | n + 1, x => by
    have := (byte1 ⟨x % 256, by omega⟩).2.2.1
    simp only at this
    rw [s2_succ]; omega
/-- behind the third one -/
def s3 (n x : Nat) : Nat := ((s2 n x >>> 4) + s2 n x) &&& mk 15 n
theorem s3_zero (x : Nat) : s3 0 x = 0 := by unfold s3 mk; simp
theorem s3_succ (n x : Nat) : s3 (n + 1) x = 2 ^ 8 * s3 n (x / 256) + cn (fun j => (x % 256).testBit j) 8 := by
  obtain ⟨h0, h1, h2, h3, h4⟩ := byte1 ⟨x % 256, by omega⟩
  simp only at h0 h1 h2 h3 h4
  have hl := s2_low n (x / 256)
  unfold s3
  rw [s2_succ, ← h4]
  generalize s2 n (x / 256) = y at *
  generalize sb 2 51 (sb 1 85 (x % 256)) = b at *
  rw [Nat.shiftRight_eq_div_pow, Nat.shiftRight_eq_div_pow]
  have e : (2 ^ 8 * y + b) / 2 ^ 4 + (2 ^ 8 * y + b) = 2 ^ 8 * (y / 2 ^ 4 + y) + (16 * (y % 16 + b / 16) + (b % 16 + b / 16)) := by omega
  rw [e]
  have ha := and_byte (16 * (y % 16 + b / 16) + (b % 16 + b / 16)) (y / 2 ^ 4 + y) 0 15 (mk 15 n) (by omega) (by omega) (by decide)
  rw [Nat.shiftRight_zero, Nat.shiftRight_zero, Nat.shiftRight_zero] at ha
  show _ &&& (2 ^ 8 * mk 15 n + 15) = _
  rw [ha]
  have hm := Nat.and_two_pow_sub_one_eq_mod (16 * (y % 16 + b / 16) + (b % 16 + b / 16)) 4
  rw [show 2 ^ 4 - 1 = 15 from rfl] at hm
  rw [hm]
  omega
theorem cn_byte (x k : Nat) : cn (fun j => x.testBit j) (8 + k) = cn (fun j => (x % 256).testBit j) 8 + cn (fun j => (x / 256).testBit j) k := by
  rw [cn_add]
  congr 1
  · exact cn_congr 8 fun j hj => by rw [show (256 : Nat) = 2 ^ 8 from rfl, Nat.testBit_mod_two_pow]; simp [hj]
  · exact cn_congr k fun j hj => by rw [show (256 : Nat) = 2 ^ 8 from rfl, Nat.testBit_div_two_pow]; exact congrArg x.testBit (Nat.add_comm 8 j)
/-- the last three sums -/
def fold3 (x : Nat) : Nat :=
  let y := x + x / 256
  let z := y + y / 65536
  z + z / 4294967296
theorem fold_sum (c0 c1 c2 c3 c4 c5 c6 c7 : Nat) (h0 : c0 ≤ 8) (h1 : c1 ≤ 8) (h2 : c2 ≤ 8) (h3 : c3 ≤ 8) (h4 : c4 ≤ 8) (h5 : c5 ≤ 8) (h6 : c6 ≤ 8) (h7 : c7 ≤ 8) :
    fold3 (256 * (256 * (256 * (256 * (256 * (256 * (256 * c7 + c6) + c5) + c4) + c3) + c2) + c1) + c0) % 128 = c0 + c1 + c2 + c3 + c4 + c5 + c6 + c7 ∧
    fold3 (256 * (256 * (256 * (256 * (256 * (256 * (256 * c7 + c6) + c5) + c4) + c3) + c2) + c1) + c0) < 4611686018427387904 := by
  unfold fold3
  have e1 : (256 * (256 * (256 * (256 * (256 * (256 * (256 * c7 + c6) + c5) + c4) + c3) + c2) + c1) + c0) + (256 * (256 * (256 * (256 * (256 * (256 * (256 * c7 + c6) + c5) + c4) + c3) + c2) + c1) + c0) / 256 =
      65536 * (65536 * (65536 * (256 * c7 + (c6 + c7)) + (256 * (c5 + c6) + (c4 + c5))) + (256 * (c3 + c4) + (c2 + c3))) + (256 * (c1 + c2) + (c0 + c1)) := by omega
  simp only [e1]
  generalize hA : 256 * c7 + (c6 + c7) = a3
  generalize hB : 256 * (c5 + c6) + (c4 + c5) = a2
  generalize hC : 256 * (c3 + c4) + (c2 + c3) = a1
  generalize hD : 256 * (c1 + c2) + (c0 + c1) = a0
  have e2 : 65536 * (65536 * (65536 * a3 + a2) + a1) + a0 + (65536 * (65536 * (65536 * a3 + a2) + a1) + a0) / 65536 = 4294967296 * (65536 * a3 + (a2 + a3)) + (65536 * (a1 + a2) + (a0 + a1)) := by omega
  simp only [e2]
  have e3 : (4294967296 * (65536 * a3 + (a2 + a3)) + (65536 * (a1 + a2) + (a0 + a1))) / 4294967296 = 65536 * a3 + (a2 + a3) := by omega
  rw [e3]
  constructor <;> omega
theorem pop_alg (x : Nat) (hx : x < 18446744073709551616) : fold3 (s3 8 x) % 128 = cn (fun j => x.testBit j) 64 ∧ fold3 (s3 8 x) < 4611686018427387904 := by
  have c := fun y => cn_le (fun j => (y % 256).testBit j) 8
  have hz : cn (fun j => (x / 256 / 256 / 256 / 256 / 256 / 256 / 256 / 256).testBit j) 0 = 0 := rfl
  rw [show (64 : Nat) = 8 + (8 + (8 + (8 + (8 + (8 + (8 + (8 + 0))))))) from rfl]
  rw [cn_byte, cn_byte, cn_byte, cn_byte, cn_byte, cn_byte, cn_byte, cn_byte, hz]
  rw [s3_succ, s3_succ, s3_succ, s3_succ, s3_succ, s3_succ, s3_succ, s3_succ, s3_zero]
  have := fold_sum _ _ _ _ _ _ _ _ (c x) (c (x / 256)) (c (x / 256 / 256)) (c (x / 256 / 256 / 256)) (c (x / 256 / 256 / 256 / 256)) (c (x / 256 / 256 / 256 / 256 / 256)) (c (x / 256 / 256 / 256 / 256 / 256 / 256)) (c (x / 256 / 256 / 256 / 256 / 256 / 256 / 256))
  rw [show (2 : Nat) ^ 8 = 256 from rfl]
  constructor
  · rw [← Nat.add_assoc, ← Nat.add_assoc, ← Nat.add_assoc, ← Nat.add_assoc, ← Nat.add_assoc, ← Nat.add_assoc, ← Nat.add_assoc] at *
    simpa using this.1
  · simpa using this.2
end Go.Proofs.YtbjcigkakeffmaaDoor
