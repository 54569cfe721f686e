/- Parts (2^32 is one), rounded down, and their powers: plain numbers. -/
import Derived.Test.YtjokekohmncmkadRows
import Derived.WalkKit
import Derived.Lib.Hide
namespace Go.Proofs.Ytjokekohmncmkad
set_option linter.unusedVariables false
/-- a part of a part, in 64 bits -/
def tms (a b : Nat) : Nat := a * b / 4294967296 % 18446744073709551616
theorem tms_lt (a b : Nat) : tms a b < 18446744073709551616 := Nat.mod_lt _ (by decide)
theorem tms_small {a b : Nat} (ha : a ≤ 4294967296) (hb : b ≤ 4294967296) : tms a b = a * b / 4294967296 ∧ tms a b ≤ a ∧ tms a b ≤ b := by
  have h1 : a * b ≤ a * 4294967296 := Nat.mul_le_mul_left _ hb
  have h2 : a * b ≤ 4294967296 * b := Nat.mul_le_mul_right _ ha
  unfold tms
  generalize a * b = p at h1 h2
  omega
theorem tms_mono {a b c d : Nat} (h : a ≤ c) (h' : b ≤ d) (hc : c ≤ 4294967296) (hd : d ≤ 4294967296) : tms a b ≤ tms c d := by
  rw [(tms_small (Nat.le_trans h hc) (Nat.le_trans h' hd)).1, (tms_small hc hd).1]
  exact Nat.div_le_div_right (Nat.mul_le_mul h h')
/-- what two words of a product make -/
theorem tms_words (p : Nat) : p / 18446744073709551616 % 4294967296 * 4294967296 + p % 18446744073709551616 / 4294967296 = p / 4294967296 % 18446744073709551616 := by omega
def pwS (one : Nat) (f : Nat → Nat) : Nat → Nat
  | 0 => one
  | n + 1 => f (pwS one f n)
/-- a part, so many times -/
def pw (a n : Nat) : Nat := pwS 4294967296 (fun p => tms p a) n
theorem pw_zero (a : Nat) : pw a 0 = 4294967296 := rfl
theorem pw_succ (a n : Nat) : pw a (n + 1) = tms (pw a n) a := rfl
theorem pw_le {a : Nat} (h : a ≤ 4294967296) : ∀ n, pw a n ≤ 4294967296
  | 0 => Nat.le_of_eq (pw_zero a)
  | n + 1 => by rw [pw_succ]; exact Nat.le_trans (tms_small (pw_le h n) h).2.2 h
theorem pw_down {a : Nat} (h : a ≤ 4294967296) (n : Nat) : pw a (n + 1) ≤ pw a n := by
  rw [pw_succ]; exact (tms_small (pw_le h n) h).2.1
theorem pw_mono {a b : Nat} (h : a ≤ b) (hb : b ≤ 4294967296) : ∀ n, pw a n ≤ pw b n
  | 0 => by rw [pw_zero, pw_zero]; exact Nat.le_refl _
  | n + 1 => by rw [pw_succ, pw_succ]; exact tms_mono (pw_mono h hb n) h (pw_le hb n) hb
/-- what is lacking of one grows by no more than each part lacks, and one for rounding -/
theorem pw_lack {a : Nat} (h : a ≤ 4294967296) : ∀ n, 4294967296 ≤ pw a n + n * (4294967296 - a + 1)
  | 0 => by rw [pw_zero]; omega
  | n + 1 => by
    have ih := pw_lack h n
    have hp := pw_le h n
    rw [pw_succ, (tms_small hp h).1, Nat.add_mul, Nat.one_mul]
    have e : pw a n * a + pw a n * (4294967296 - a) = pw a n * 4294967296 := by rw [← Nat.mul_add, show a + (4294967296 - a) = 4294967296 by omega]
    have h1 : pw a n * (4294967296 - a) ≤ 4294967296 * (4294967296 - a) := Nat.mul_le_mul_right _ hp
    generalize n * (4294967296 - a + 1) = q at ih ⊢
    generalize pw a n * (4294967296 - a) = y at e h1
    generalize pw a n * a = x at e ⊢
    omega
/-- a number over another one, as a part -/
def partV (n m : Nat) : Nat := n * 4294967296 / m
theorem partV_le {n m : Nat} (h : n ≤ m) (h0 : 0 < m) : partV n m ≤ 4294967296 := by
  unfold partV
  rw [Nat.div_le_iff_le_mul h0, Nat.mul_comm 4294967296 m]
  have := Nat.mul_le_mul_right 4294967296 h
  omega
theorem partV_mono {n k m : Nat} (h : n ≤ k) : partV n m ≤ partV k m := Nat.div_le_div_right (Nat.mul_le_mul_right _ h)
/-- all powers of the parts 1 .. of so many, so often, together -/
def pwsS (f : Nat → Nat) : Nat → Nat
  | 0 => 0
  | k + 1 => pwsS f k + f (k + 1)
/-- the sum for i from 1 to k of the powers of i over floors -/
def pws (floors people k : Nat) : Nat := pwsS (fun i => pw (partV i floors) people) k
theorem pws_zero (f p : Nat) : pws f p 0 = 0 := rfl
theorem pws_succ (f p k : Nat) : pws f p (k + 1) = pws f p k + pw (partV (k + 1) f) p := rfl
theorem pws_le {f p : Nat} (h0 : 0 < f) : ∀ k, k ≤ f → pws f p k ≤ k * 4294967296
  | 0, _ => Nat.le_trans (Nat.le_of_eq (pws_zero f p)) (Nat.zero_le _)
  | k + 1, h => by
    have ih := pws_le (p := p) h0 k (by omega)
    have h1 := pw_le (partV_le h h0) p
    rw [pws_succ]
    generalize pws f p k = x at ih ⊢
    generalize pw (partV (k + 1) f) p = y at h1 ⊢
    omega
theorem pws_top {f p : Nat} (h0 : 0 < f) : ∀ k, k ≤ f - 1 → pws f p k ≤ k * pw (partV (f - 1) f) p
  | 0, _ => Nat.le_trans (Nat.le_of_eq (pws_zero f p)) (Nat.zero_le _)
  | k + 1, h => by
    have ih := pws_top (p := p) h0 k (by omega)
    have h1 := pw_mono (partV_mono (n := k + 1) (k := f - 1) (m := f) h) (partV_le (by omega) h0) p
    rw [pws_succ, Nat.add_mul, Nat.one_mul]; omega
theorem pws_down {f p : Nat} (h0 : 0 < f) : ∀ k, k ≤ f → pws f (p + 1) k ≤ pws f p k
  | 0, _ => by rw [pws_zero, pws_zero]; exact Nat.le_refl _
  | k + 1, h => by
    have ih := pws_down (p := p) h0 k (by omega)
    have h1 := pw_down (partV_le h h0) p
    rw [pws_succ, pws_succ]; omega
/-- at how many floors -/
def stopsV (f p : Nat) : Nat := f * 4294967296 - f * pw (partV (f - 1) f) p
/-- how high -/
def highV (f p : Nat) : Nat := if p = 0 then 0 else f * 4294967296 - pws f p (f - 1)
theorem part_near {f : Nat} (h0 : 0 < f) : f * (4294967296 - partV (f - 1) f) ≤ 4294967296 + f := by
  have hl := partV_le (n := f - 1) (m := f) (by omega) h0
  unfold partV at hl ⊢
  have h2 := Nat.lt_div_mul_add (a := (f - 1) * 4294967296) h0
  rw [Nat.mul_sub]
  rw [Nat.mul_comm _ f] at h2
  generalize (f - 1) * 4294967296 / f = q at *
  generalize f * q = y at *
  omega
theorem stops_ge {f p : Nat} (h0 : 0 < f) : stopsV f p ≤ stopsV f (p + 1) := by
  have h1 := pw_down (partV_le (n := f - 1) (m := f) (by omega) h0) p
  have h2 := Nat.mul_le_mul_left f h1
  unfold stopsV; omega
theorem high_ge {f p : Nat} (h0 : 0 < f) : highV f p ≤ highV f (p + 1) := by
  have h1 := pws_down (p := p) h0 (f - 1) (by omega)
  unfold highV
  rw [if_neg (show ¬ p + 1 = 0 by omega)]
  by_cases h : p = 0
  · rw [if_pos h]; omega
  · rw [if_neg h]; omega
theorem stops_people {f p : Nat} (h0 : 0 < f) (hp : p ≤ 64) : stopsV f p ≤ p * 4294967296 + f * 4295 := by
  have hl := partV_le (n := f - 1) (m := f) (by omega) h0
  have h1 := pw_lack hl p
  have h2 := part_near h0
  generalize hx : partV (f - 1) f = x at *
  have h3 : f * 4294967296 ≤ f * (pw x p + p * (4294967296 - x + 1)) := Nat.mul_le_mul_left _ h1
  have h4 : p * (f * (4294967296 - x)) ≤ p * (4294967296 + f) := Nat.mul_le_mul_left _ h2
  unfold stopsV
  rw [hx]
  rw [Nat.mul_add, show f * (p * (4294967296 - x + 1)) = p * (f * (4294967296 - x)) + p * f by rw [Nat.mul_left_comm, Nat.mul_add, Nat.mul_add, Nat.mul_one]] at h3
  rw [Nat.mul_add] at h4
  have h5 : p * f ≤ 64 * f := Nat.mul_le_mul_right _ hp
  generalize p * (f * (4294967296 - x)) = y at *
  generalize p * f = z at *
  generalize f * pw x p = t at *
  omega
theorem high_stops {f p : Nat} (h0 : 0 < f) : stopsV f p ≤ highV f p := by
  unfold stopsV highV
  have hl := partV_le (n := f - 1) (m := f) (by omega) h0
  by_cases h : p = 0
  · subst h; rw [if_pos rfl, pw_zero]; omega
  · rw [if_neg h]
    have h1 := pws_top (p := p) h0 (f - 1) (Nat.le_refl _)
    have h2 : (f - 1) * pw (partV (f - 1) f) p ≤ f * pw (partV (f - 1) f) p := Nat.mul_le_mul_right _ (by omega)
    omega
theorem stops_most (f p : Nat) : stopsV f p ≤ f * 4294967296 := Nat.sub_le _ _
theorem high_most (f p : Nat) : highV f p ≤ f * 4294967296 := by unfold highV; split <;> omega
end Go.Proofs.Ytjokekohmncmkad
