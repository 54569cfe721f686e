/- The words' states: steps, many steps at once, and that 2^64 steps come round. -/
import Derived.WalkKit
namespace Go.Proofs.Ytbbcohgkiejhjab
open Go.RowKit
set_option linter.unusedVariables false
/-- the next state -/
def aff (m c s : Nat) : Nat := (s * m + c) % 18446744073709551616
theorem aff_lt (m c s : Nat) : aff m c s < 18446744073709551616 := by unfold aff; omega
def stp (s : Nat) : Nat := aff 6364136223846793005 1442695040888963407 s
/-- so many steps of any kind -/
def itf (f : Nat → Nat) : Nat → Nat → Nat
  | 0, s => s
  | n + 1, s => itf f n (f s)
theorem itf_add (f : Nat → Nat) (m n s : Nat) : itf f (m + n) s = itf f m (itf f n s) := by
  induction n generalizing s with
  | zero => rfl
  | succ n ih => rw [← Nat.add_assoc, itf, itf, ih]
theorem itf_one (f : Nat → Nat) (s : Nat) : itf f 1 s = f s := rfl
/-- the state behind so many steps -/
def its (n s : Nat) : Nat := itf stp n s
theorem its_add (m n s : Nat) : its (m + n) s = its m (its n s) := itf_add stp m n s
theorem its_one (s : Nat) : its 1 s = stp s := itf_one stp s
theorem its_zero (s : Nat) : its 0 s = s := rfl
theorem stp_lt (s : Nat) : stp s < 18446744073709551616 := aff_lt _ _ _
theorem its_succ (n s : Nat) : its (n + 1) s = stp (its n s) := by
  rw [Nat.add_comm, its_add, its_one]
theorem its_lt {s : Nat} (h : s < 18446744073709551616) (n : Nat) : its n s < 18446744073709551616 := by
  cases n with
  | zero => exact h
  | succ n => rw [its_succ]; exact stp_lt _
/-- a times m, and c: what so many steps do -/
def Rep (m c n : Nat) : Prop := ∀ x, x < 18446744073709551616 → aff m c x = its n x
theorem rep_one : Rep 6364136223846793005 1442695040888963407 1 := fun x _ => (its_one x).symm
theorem rep_dbl {m c n : Nat} (h : Rep m c n) : Rep (m * m % 18446744073709551616) ((c * m + c) % 18446744073709551616) (n + n) := by
  intro x hx
  have h1 := h x hx
  have h2 := h (aff m c x) (aff_lt _ _ _)
  rw [its_add, ← h1, ← h2]
  unfold aff
  generalize 18446744073709551616 = q
  have e : (x * (m * m % q) + (c * m + c) % q) % q = (x * (m * m) + (c * m + c)) % q := by
    rw [Nat.add_mod, Nat.mul_mod x (m * m % q), Nat.mod_mod, ← Nat.mul_mod, Nat.mod_mod, ← Nat.add_mod]
  have f : ((x * m + c) % q * m + c) % q = ((x * m + c) * m + c) % q := by
    rw [Nat.add_mod, Nat.mul_mod, Nat.mod_mod, ← Nat.mul_mod, ← Nat.add_mod]
  rw [e, f, Nat.add_mul, Nat.mul_assoc, Nat.add_assoc]
def dblP (p : Nat × Nat) : Nat × Nat := (p.1 * p.1 % 18446744073709551616, (p.2 * p.1 + p.2) % 18446744073709551616)
def dblN : Nat → Nat × Nat
  | 0 => (6364136223846793005, 1442695040888963407)
  | k + 1 => dblP (dblN k)
theorem rep_pow (k : Nat) : Rep (dblN k).1 (dblN k).2 (2 ^ k) := by
  induction k with
  | zero => exact rep_one
  | succ k ih => rw [Nat.pow_succ, Nat.mul_two]; exact rep_dbl ih
theorem dbl64 : dblN 64 = (1, 0) := by decide +kernel
theorem two64 : (2 : Nat) ^ 64 = 18446744073709551616 := by decide
/-- the steps come round -/
theorem its_round {s : Nat} (h : s < 18446744073709551616) : its 18446744073709551616 s = s := by
  have := rep_pow 64 s h
  rw [dbl64, two64] at this
  rw [← this]; unfold aff; rw [Nat.mul_one, Nat.add_zero, Nat.mod_eq_of_lt h]
theorem its_mul {s : Nat} (h : s < 18446744073709551616) (k : Nat) : its (18446744073709551616 * k) s = s := by
  induction k with
  | zero => rfl
  | succ k ih => rw [Nat.mul_succ, its_add, its_round h, ih]
theorem its_mod {s : Nat} (h : s < 18446744073709551616) (n : Nat) : its (n % 18446744073709551616) s = its n s := by
  have e := Nat.div_add_mod n 18446744073709551616
  have : its n s = its (18446744073709551616 * (n / 18446744073709551616) + n % 18446744073709551616) s := by rw [e]
  rw [this, its_add, its_mul (its_lt h _)]
theorem step_back {s : Nat} (h : s < 18446744073709551616) : stp (its 18446744073709551615 s) = s := by
  have e := its_succ 18446744073709551615 s
  rw [show 18446744073709551615 + 1 = 18446744073709551616 from rfl, its_round h] at e
  exact e.symm
theorem back_step {s : Nat} (h : s < 18446744073709551616) : its 18446744073709551615 (stp s) = s := by
  have e := its_add 18446744073709551615 1 s
  rw [its_one, show 18446744073709551615 + 1 = 18446744073709551616 from rfl, its_round h] at e
  exact e.symm
theorem half_odd {N j S : Nat} (h : N % 2 = 1) : its (N / 2 * (j + j)) (its j S) = its (N * j) S := by
  rw [← its_add]; congr 1
  have e : N = 2 * (N / 2) + 1 := by omega
  generalize N / 2 = q at *
  subst e
  rw [Nat.mul_add, Nat.add_mul, Nat.one_mul, Nat.mul_assoc 2, Nat.two_mul]
theorem half_even {N j S : Nat} (h : N % 2 = 0) : its (N / 2 * (j + j)) S = its (N * j) S := by
  congr 1
  have e : N = 2 * (N / 2) := by omega
  generalize N / 2 = q at *
  subst e
  rw [Nat.mul_add, Nat.mul_assoc 2, Nat.two_mul]
end Go.Proofs.Ytbbcohgkiejhjab
