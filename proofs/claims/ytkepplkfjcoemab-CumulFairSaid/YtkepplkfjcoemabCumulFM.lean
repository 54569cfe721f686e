/- A table means as many passengers as its rate says, nearly: reckoned for each rate by the kernel. -/
import Derived.Test.YtkepplkfjcoemabRows
import Derived.Test.YtkepplkfjcoemabCumulMath
import Derived.WalkKit
namespace Go.Proofs.Ytkepplkfjcoemab
open Go.RowKit
set_option linter.unusedVariables false
/-- how many weights there are, and their sum -/
def p1 (r : Nat) : Nat → Nat → Nat → Nat → Nat × Nat
  | 0, k, _, s => (k, s)
  | f + 1, k, w, s => cond (Nat.beq w 0) (k, s) (p1 r f (k + 1) (w * r / (1000 * (k + 1))) (s + w))
/-- the table's places, together -/
def p2 (W r T : Nat) : Nat → Nat → Nat → Nat → Nat → Nat
  | 0, _, _, _, a => a
  | f + 1, k, w, s, a => cond (Nat.beq w 0) a (p2 W r T f (k + 1) (w * r / (1000 * (k + 1))) (s + w) (a + (s + w) * W / T))
def fairB (F W r : Nat) : Bool :=
  let x := p1 r 41 0 F 0
  let A := p2 W r x.2 41 0 F 0 0
  Nat.ble (1000 * (x.1 * W - A)) (r * W + W) && Nat.ble (r * W) (1000 * (x.1 * W - A) + W)
def allR (F W lo : Nat) : Nat → Bool
  | 0 => true
  | k + 1 => fairB F W (lo + k) && allR F W lo k
theorem allR_at {F W lo : Nat} : ∀ {n k : Nat}, allR F W lo n = true → k < n → fairB F W (lo + k) = true
  | 0, _, _, h => absurd h (by omega)
  | n + 1, k, h, hk => by
    simp only [allR, Bool.and_eq_true] at h
    by_cases e : k = n
    · subst e; exact h.1
    · exact allR_at h.2 (by omega)
theorem fair0 : allR 67108864 4294967296 0 501 = true := by decide +kernel
theorem fair1 : allR 67108864 4294967296 500 501 = true := by decide +kernel
theorem fair2 : allR 67108864 4294967296 1000 501 = true := by decide +kernel
theorem fair3 : allR 67108864 4294967296 1500 501 = true := by decide +kernel
theorem fair4 : allR 67108864 4294967296 2000 501 = true := by decide +kernel
theorem fair5 : allR 67108864 4294967296 2500 501 = true := by decide +kernel
theorem fair6 : allR 67108864 4294967296 3000 501 = true := by decide +kernel
theorem fair7 : allR 67108864 4294967296 3500 501 = true := by decide +kernel
theorem fair_all {r : Nat} (hr : r ≤ 4000) : fairB 67108864 4294967296 r = true := by
  rcases (show r ≤ 500 ∨ (500 ≤ r ∧ r ≤ 1000) ∨ (1000 ≤ r ∧ r ≤ 1500) ∨ (1500 ≤ r ∧ r ≤ 2000) ∨ (2000 ≤ r ∧ r ≤ 2500) ∨ (2500 ≤ r ∧ r ≤ 3000) ∨ (3000 ≤ r ∧ r ≤ 3500) ∨ (3500 ≤ r ∧ r ≤ 4000) by omega) with h | h | h | h | h | h | h | h
  · have := allR_at fair0 (k := r) (by omega); rwa [Nat.zero_add] at this
  · have := allR_at fair1 (k := r - 500) (by omega); rwa [show 500 + (r - 500) = r by omega] at this
  · have := allR_at fair2 (k := r - 1000) (by omega); rwa [show 1000 + (r - 1000) = r by omega] at this
  · have := allR_at fair3 (k := r - 1500) (by omega); rwa [show 1500 + (r - 1500) = r by omega] at this
  · have := allR_at fair4 (k := r - 2000) (by omega); rwa [show 2000 + (r - 2000) = r by omega] at this
  · have := allR_at fair5 (k := r - 2500) (by omega); rwa [show 2500 + (r - 2500) = r by omega] at this
  · have := allR_at fair6 (k := r - 3000) (by omega); rwa [show 3000 + (r - 3000) = r by omega] at this
  · have := allR_at fair7 (k := r - 3500) (by omega); rwa [show 3500 + (r - 3500) = r by omega] at this
theorem p1_eq {F r n : Nat} (hz : wk F r n = 0) (hp : ∀ i, i < n → 0 < wk F r i) : ∀ (f k : Nat), k ≤ n → n - k < f → p1 r f k (wk F r k) (sm F r k) = (n, sm F r n)
  | 0, k, _, h => absurd h (by omega)
  | f + 1, k, hk, h => by
    unfold p1
    by_cases e : k = n
    · subst e; rw [hz]; rfl
    · have := hp k (by omega)
      rw [show Nat.beq (wk F r k) 0 = false from by cases hb : Nat.beq (wk F r k) 0 with | false => rfl | true => (have := Nat.eq_of_beq_eq_true hb; omega)]
      exact p1_eq hz hp f (k + 1) (by omega) (by omega)
/-- the table's first k places, together -/
def tsum (W F r n : Nat) : Nat → Nat
  | 0 => 0
  | k + 1 => tsum W F r n k + tbv W F r n k
theorem p2_eq {W F r n : Nat} (hz : wk F r n = 0) (hp : ∀ i, i < n → 0 < wk F r i) : ∀ (f k : Nat), k ≤ n → n - k < f → p2 W r (sm F r n) f k (wk F r k) (sm F r k) (tsum W F r n k) = tsum W F r n n
  | 0, k, _, h => absurd h (by omega)
  | f + 1, k, hk, h => by
    unfold p2
    by_cases e : k = n
    · subst e; rw [hz]; rfl
    · have := hp k (by omega)
      rw [show Nat.beq (wk F r k) 0 = false from by cases hb : Nat.beq (wk F r k) 0 with | false => rfl | true => (have := Nat.eq_of_beq_eq_true hb; omega)]
      exact p2_eq hz hp f (k + 1) (by omega) (by omega)
theorem fair_at {r n : Nat} (hr : r ≤ 4000) (n1 : 1 ≤ n) (n2 : n ≤ 40) (hz : wk 67108864 r n = 0) (hp : ∀ i, i < n → 0 < wk 67108864 r i) :
    1000 * (n * 4294967296 - tsum 4294967296 67108864 r n n) ≤ r * 4294967296 + 4294967296 ∧ r * 4294967296 ≤ 1000 * (n * 4294967296 - tsum 4294967296 67108864 r n n) + 4294967296 := by
  have h := fair_all hr
  have e1 := p1_eq hz hp 41 0 (by omega) (by omega)
  have e2 := p2_eq (W := 4294967296) hz hp 41 0 (by omega) (by omega)
  unfold fairB at h
  have e1' : p1 r 41 0 67108864 0 = (n, sm 67108864 r n) := e1
  have e2' : p2 4294967296 r (sm 67108864 r n) 41 0 67108864 0 0 = tsum 4294967296 67108864 r n n := e2
  simp only [e1', e2', Bool.and_eq_true] at h
  exact ⟨Nat.le_of_ble_eq_true h.1, Nat.le_of_ble_eq_true h.2⟩
end Go.Proofs.Ytkepplkfjcoemab
