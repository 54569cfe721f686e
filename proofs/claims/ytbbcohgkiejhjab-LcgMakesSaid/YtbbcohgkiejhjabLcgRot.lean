/- A number of 32 bits, turned to the right: at once, and bit by bit. -/
import Derived.WalkKit
import Derived.Laws.BitsAllLaws
namespace Go.Proofs.Ytbbcohgkiejhjab
open Go.RowKit
set_option linter.unusedVariables false
/-- turned to the right by j bits (at most 31) -/
def rotR (x j : Nat) : Nat := x / 2 ^ j + x % 2 ^ j * 2 ^ (32 - j)
theorem rotR_zero (x : Nat) : rotR x 0 = x := by simp [rotR, Nat.mod_one]
theorem pow_split {j : Nat} (h : j ≤ 32) : (2 : Nat) ^ j * 2 ^ (32 - j) = 4294967296 := by
  rw [← Nat.pow_add, show j + (32 - j) = 32 by omega]
theorem rotR_lt {x j : Nat} (hx : x < 4294967296) (hj : j ≤ 31) : rotR x j < 4294967296 := by
  unfold rotR
  have hp := pow_split (show j ≤ 32 by omega)
  have h0 : 0 < 2 ^ j := Nat.pow_pos (by omega)
  have hd : x / 2 ^ j < 2 ^ (32 - j) := by
    apply Nat.div_lt_of_lt_mul; rw [hp]; exact hx
  have hm := Nat.mod_lt x h0
  generalize x / 2 ^ j = q at *
  generalize x % 2 ^ j = r at *
  generalize (2 : Nat) ^ (32 - j) = t at *
  generalize (2 : Nat) ^ j = p at *
  have : r * t + t ≤ p * t := by
    have := Nat.mul_le_mul_right t (show r + 1 ≤ p from hm)
    rwa [Nat.add_mul, Nat.one_mul] at this
  omega
theorem rotR_step {x j : Nat} (hj : j ≤ 30) : rotR x j / 2 + rotR x j % 2 * 2147483648 = rotR x (j + 1) := by
  unfold rotR
  have e1 : (2 : Nat) ^ (32 - j) = 2 * 2 ^ (32 - (j + 1)) := by
    rw [show 32 - j = (32 - (j + 1)) + 1 by omega, Nat.pow_succ, Nat.mul_comm]
  have e2 : (2 : Nat) ^ (32 - (j + 1)) = 2 * 2 ^ (30 - j) := by
    rw [show 32 - (j + 1) = (30 - j) + 1 by omega, Nat.pow_succ, Nat.mul_comm]
  have e3 : (2 : Nat) ^ j * 2 ^ (32 - (j + 1)) = 2147483648 := by
    rw [← Nat.pow_add, show j + (32 - (j + 1)) = 31 by omega]
  have h0 : 0 < 2 ^ j := Nat.pow_pos (by omega)
  have d1 : x / 2 ^ (j + 1) = x / 2 ^ j / 2 := by rw [Nat.pow_succ, Nat.div_div_eq_div_mul]
  have d2 : x % 2 ^ (j + 1) = x / 2 ^ j % 2 * 2 ^ j + x % 2 ^ j := by
    rw [Nat.pow_succ, Nat.mod_mul]; rw [Nat.mul_comm (2 ^ j), Nat.add_comm]
  rw [d1, d2, e1]
  generalize x / 2 ^ j = y
  generalize x % 2 ^ j = r
  generalize hT : (2 : Nat) ^ (32 - (j + 1)) = t at *
  generalize (2 : Nat) ^ j = p at *
  have g : (y % 2 * p + r) * t = y % 2 * 2147483648 + r * t := by rw [Nat.add_mul, Nat.mul_assoc, e3]
  rw [g, show r * (2 * t) = 2 * (r * t) by rw [Nat.mul_left_comm]]
  generalize r * t = m
  omega
/-- by two shifts -/
theorem rot_or {x j : Nat} (hx : x < 4294967296) (h1 : 1 ≤ j) (h2 : j ≤ 31) : (x * 2 ^ (32 - j) % 4294967296) ||| (x / 2 ^ j) = rotR x j := by
  have hp := pow_split (show j ≤ 32 by omega)
  have h0 : 0 < 2 ^ j := Nat.pow_pos (by omega)
  have hd : x / 2 ^ j < 2 ^ (32 - j) := by
    apply Nat.div_lt_of_lt_mul; rw [hp]; exact hx
  have e : x * 2 ^ (32 - j) % 4294967296 = x % 2 ^ j * 2 ^ (32 - j) := by
    rw [← hp, Nat.mul_mod_mul_right]
  rw [e]
  unfold rotR
  rw [Nat.add_comm, ← Nat.shiftLeft_eq, Nat.shiftLeft_add_eq_or_of_lt hd]
end Go.Proofs.Ytbbcohgkiejhjab
