/- Rows of numbers, each once: what is put back. Plain numbers. -/
import Derived.Test.YteebeiflipfbkaaRows
import Derived.WalkKit
import Derived.Lib.Hide
namespace Go.Proofs.Yteebeiflipfbkaa
set_option linter.unusedVariables false
/-- so many into as many, none twice: all are met -/
theorem pigeon : ∀ (n : Nat) (f : Nat → Nat), (∀ i, i < n → f i < n) → (∀ i j, i < n → j < n → f i = f j → i = j) → ∀ y, y < n → ∃ x, x < n ∧ f x = y
  | 0, _, _, _, y, hy => absurd hy (by omega)
  | n + 1, f, hf, hi, y, hy => by
    by_cases hn : ∃ x, x < n ∧ f x = n
    · obtain ⟨p, hp, hpn⟩ := hn
      have hfn : f n < n := by
        have h1 := hf n (by omega)
        have h2 : f n ≠ n := fun e => by have := hi p n (by omega) (by omega) (by rw [hpn, e]); omega
        omega
      have g1 : ∀ i, i < n → (if f i = n then f n else f i) < n := fun i h => by
        split
        · exact hfn
        · have := hf i (by omega); omega
      have g2 : ∀ i j, i < n → j < n → (if f i = n then f n else f i) = (if f j = n then f n else f j) → i = j := fun i j h h' e => by
        by_cases c : f i = n
        · rw [if_pos c] at e
          by_cases d : f j = n
          · exact hi i j (by omega) (by omega) (by rw [c, d])
          · rw [if_neg d] at e
            have := hi n j (by omega) (by omega) e; omega
        · rw [if_neg c] at e
          by_cases d : f j = n
          · rw [if_pos d] at e
            have := hi i n (by omega) (by omega) e; omega
          · rw [if_neg d] at e
            exact hi i j (by omega) (by omega) e
      by_cases hy' : y = n
      · exact ⟨p, by omega, by rw [hpn, hy']⟩
      · obtain ⟨x, hx, e⟩ := pigeon n (fun i => if f i = n then f n else f i) g1 g2 y (by omega)
        by_cases c : f x = n
        · rw [if_pos c] at e; exact ⟨n, by omega, e⟩
        · rw [if_neg c] at e; exact ⟨x, by omega, e⟩
    · have g1 : ∀ i, i < n → f i < n := fun i h => by
        have h1 := hf i (by omega)
        have h2 : f i ≠ n := fun e => hn ⟨i, h, e⟩
        omega
      have g2 : ∀ i j, i < n → j < n → f i = f j → i = j := fun i j h h' e => hi i j (by omega) (by omega) e
      have hfn : f n = n := by
        have h1 := hf n (by omega)
        rcases Nat.lt_or_ge (f n) n with c | c
        · obtain ⟨x, hx, e⟩ := pigeon n f g1 g2 (f n) c
          have := hi x n (by omega) (by omega) e; omega
        · omega
      by_cases hy' : y = n
      · exact ⟨n, by omega, by rw [hfn, hy']⟩
      · obtain ⟨x, hx, e⟩ := pigeon n f g1 g2 y (by omega)
        exact ⟨x, by omega, e⟩
/-- is the k-th of a row a number that may be, and none of those ahead of it? -/
def Fresh (z : Nat → Int) (n k : Nat) : Prop := 0 ≤ z k ∧ z k < n ∧ ∀ j, j < k → z j ≠ z k
/-- are all of the first k so? -/
def Good (z : Nat → Int) (n k : Nat) : Prop := ∀ i, i < k → Fresh z n i
theorem good_zero (z : Nat → Int) (n : Nat) : Good z n 0 := fun i h => absurd h (by omega)
theorem good_succ {z : Nat → Int} {n k : Nat} : Good z n (k + 1) ↔ Good z n k ∧ Fresh z n k := by
  constructor
  · intro h; exact ⟨fun i hi => h i (by omega), h k (by omega)⟩
  · rintro ⟨h, h'⟩ i hi
    by_cases e : i = k
    · rw [e]; exact h'
    · exact h i (by omega)
theorem good_less {z : Nat → Int} {n k j : Nat} (h : Good z n k) (hj : j ≤ k) : Good z n j := fun i hi => h i (by omega)
/-- the first one that is not so -/
theorem good_first {z : Nat → Int} {n : Nat} : ∀ k, ¬ Good z n k → ∃ m, m < k ∧ Good z n m ∧ ¬ Fresh z n m
  | 0, h => absurd (good_zero z n) h
  | k + 1, h => by
    by_cases c : Good z n k
    · exact ⟨k, by omega, c, fun d => h (good_succ.2 ⟨c, d⟩)⟩
    · obtain ⟨m, hm, h1, h2⟩ := good_first k c
      exact ⟨m, by omega, h1, h2⟩
theorem good_inj {z : Nat → Int} {n k : Nat} (h : Good z n k) {i j : Nat} (hi : i < k) (hj : j < k) (e : z i = z j) : i = j := by
  rcases Nat.lt_trichotomy i j with c | c | c
  · exact absurd e ((h j hj).2.2 i c)
  · exact c
  · exact absurd e.symm ((h i hi).2.2 j c)
/-- a whole row has each number -/
theorem good_all {z : Nat → Int} {n : Nat} (h : Good z n n) {y : Nat} (hy : y < n) : ∃ x, x < n ∧ z x = y := by
  obtain ⟨x, hx, e⟩ := pigeon n (fun i => (z i).toNat) (fun i hi => by have := h i hi; unfold Fresh at this; omega)
    (fun i j hi hj e => good_inj h hi hj (by have h1 := (h i hi).1; have h2 := (h j hj).1; have e' : (z i).toNat = (z j).toNat := e; omega)) y hy
  have := (h x hx).1
  exact ⟨x, hx, by have e' : (z x).toNat = y := e; omega⟩
/-- what is put back by the first k: the place of a number (0: it isn't there) -/
def backS (z : Nat → Int) (v : Int) : Nat → Int
  | 0 => 0
  | k + 1 => if z k = v then k else backS z v k
def backV (z : Nat → Int) (k v : Nat) : Int := backS z v k
theorem back_zero (z : Nat → Int) (v : Nat) : backV z 0 v = 0 := rfl
theorem back_succ (z : Nat → Int) (k v : Nat) : backV z (k + 1) v = if z k = v then (k : Int) else backV z k v := rfl
theorem back_is {z : Nat → Int} {n : Nat} {i v : Nat} (hv : z i = v) : ∀ k, Good z n k → i < k → backV z k v = i
  | 0, _, h => absurd h (by omega)
  | k + 1, hg, h => by
    rw [back_succ]
    by_cases e : z k = v
    · rw [if_pos e]
      have := good_inj hg (show k < k + 1 by omega) h (by rw [e, hv])
      rw [this]
    · rw [if_neg e]
      have hik : i ≠ k := fun c => e (by rw [← c]; exact hv)
      exact back_is hv k (good_less hg (by omega)) (by omega)
/-- is a number told by the first k? -/
def toldS (z : Nat → Int) (v : Int) : Nat → Bool
  | 0 => false
  | k + 1 => decide (z k = v) || toldS z v k
def toldV (z : Nat → Int) (k v : Nat) : Bool := toldS z v k
theorem told_zero (z : Nat → Int) (v : Nat) : toldV z 0 v = false := rfl
theorem told_succ (z : Nat → Int) (k v : Nat) : toldV z (k + 1) v = (decide (z k = v) || toldV z k v) := rfl
theorem told_iff {z : Nat → Int} {v : Nat} : ∀ k, toldV z k v = true ↔ ∃ j, j < k ∧ z j = v
  | 0 => by rw [told_zero]; exact ⟨fun h => (by cases h), fun ⟨j, hj, _⟩ => absurd hj (by omega)⟩
  | k + 1 => by
    rw [told_succ, Bool.or_eq_true, decide_eq_true_iff, told_iff k]
    constructor
    · rintro (h | ⟨j, hj, h⟩)
      · exact ⟨k, by omega, h⟩
      · exact ⟨j, by omega, h⟩
    · rintro ⟨j, hj, h⟩
      by_cases e : j = k
      · left; rw [← e]; exact h
      · right; exact ⟨j, by omega, h⟩
/-- what puts back is a row of each number once, and is put back by the row -/
theorem back_good {z : Nat → Int} {n : Nat} (h : Good z n n) : Good (backV z n) n n := fun i hi => by
  obtain ⟨x, hx, e⟩ := good_all h hi
  have e1 : backV z n i = x := back_is e n h hx
  refine ⟨by omega, by omega, fun j hj c => ?_⟩
  obtain ⟨y, hy, e'⟩ := good_all h (show j < n by omega)
  have e2 : backV z n j = y := back_is e' n h hy
  have : x = y := by omega
  subst this
  omega
theorem back_back {z : Nat → Int} {n : Nat} (h : Good z n n) {i : Nat} (hi : i < n) : backV (backV z n) n i = z i := by
  have h1 := h i hi
  obtain ⟨v, hv⟩ := Int.eq_ofNat_of_zero_le h1.1
  have e1 : backV z n v = i := back_is hv n h hi
  have hvn : v < n := by have := h1.2.1; omega
  rw [back_is (i := v) e1 n (back_good h) hvn, hv]
end Go.Proofs.Yteebeiflipfbkaa
