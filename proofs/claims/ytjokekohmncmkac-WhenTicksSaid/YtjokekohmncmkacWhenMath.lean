/- Segments of traffic, one behind the other: where each begins, and which there is at a tick. Plain numbers. -/
import Derived.Test.YtjokekohmncmkacRows
import Derived.WalkKit
import Derived.Lib.Hide
namespace Go.Proofs.Ytjokekohmncmkac
set_option linter.unusedVariables false
def cutT (n : Int) : Int := max 0 (min n 1048576)
theorem cutT_bd (n : Int) : 0 ≤ cutT n ∧ cutT n ≤ 1048576 := by unfold cutT; omega
theorem cutT_other (n : Int) : min (max n 0) 1048576 = cutT n := by unfold cutT; omega
def segS (f : Nat → Int) : Nat → Int
  | 0 => 0
  | k + 1 => segS f k + f k
/-- where the k-th begins -/
def seg (z : Nat → Nat → Int) (k : Nat) : Int := segS (fun i => cutT (z i 1)) k
theorem seg_zero (z : Nat → Nat → Int) : seg z 0 = 0 := rfl
theorem seg_succ (z : Nat → Nat → Int) (k : Nat) : seg z (k + 1) = seg z k + cutT (z k 1) := rfl
theorem seg_bd (z : Nat → Nat → Int) : ∀ k, 0 ≤ seg z k ∧ seg z k ≤ k * 1048576
  | 0 => by rw [seg_zero]; omega
  | k + 1 => by have := seg_bd z k; have := cutT_bd (z k 1); rw [seg_succ]; omega
theorem seg_mono (z : Nat → Nat → Int) {i : Nat} : ∀ j, i ≤ j → seg z i ≤ seg z j
  | 0, h => by obtain rfl : i = 0 := by omega
               exact Int.le_refl _
  | j + 1, h => by
    rcases Nat.lt_or_ge j i with h1 | h1
    · obtain rfl : i = j + 1 := by omega
      exact Int.le_refl _
    · have := seg_mono z j h1; have := cutT_bd (z j 1); rw [seg_succ]; omega
/-- the last one of the first k that has a tick; 0, if none has -/
def atS (d : Nat → Prop) [∀ i, Decidable (d i)] : Nat → Nat
  | 0 => 0
  | k + 1 => if d k then k else atS d k
def InS (z : Nat → Nat → Int) (t : Int) (i : Nat) : Prop := seg z i ≤ t ∧ t < seg z (i + 1)
instance (z : Nat → Nat → Int) (t : Int) (i : Nat) : Decidable (InS z t i) := by unfold InS; infer_instance
def atV (z : Nat → Nat → Int) (t : Int) (k : Nat) : Nat := atS (InS z t) k
def atF (z : Nat → Nat → Int) (t : Int) (k : Nat) : Bool := decide (0 ≤ t ∧ t < seg z k)
theorem atV_zero (z : Nat → Nat → Int) (t : Int) : atV z t 0 = 0 := rfl
theorem atV_yes {z : Nat → Nat → Int} {t : Int} {k : Nat} (h : InS z t k) : atV z t (k + 1) = k := by
  show (if InS z t k then k else _) = k; rw [if_pos h]
theorem atV_no {z : Nat → Nat → Int} {t : Int} {k : Nat} (h : ¬ InS z t k) : atV z t (k + 1) = atV z t k := by
  show (if InS z t k then k else _) = _; rw [if_neg h]; rfl
theorem atV_is {z : Nat → Nat → Int} {t : Int} {i : Nat} (h : InS z t i) : ∀ k, i < k → atV z t k = i
  | 0, hk => absurd hk (by omega)
  | k + 1, hk => by
    by_cases e : i = k
    · subst e; exact atV_yes h
    · have h1 := seg_mono z (i := i + 1) k (by omega)
      rw [atV_no (fun c => by have := c.1; have := h.2; omega)]
      exact atV_is h k (by omega)
theorem atV_none {z : Nat → Nat → Int} {t : Int} {n : Nat} (h : t < 0 ∨ seg z n ≤ t) : ∀ k, k ≤ n → atV z t k = 0
  | 0, _ => rfl
  | k + 1, hk => by
    have h1 := seg_mono z (i := k + 1) n hk
    have h2 := (seg_bd z k).1
    rw [atV_no (fun c => by obtain ⟨c1, c2⟩ := c; omega)]
    exact atV_none h k (by omega)
theorem atF_yes {z : Nat → Nat → Int} {t : Int} {i n : Nat} (h : InS z t i) (hi : i < n) : atF z t n = true := by
  have h1 := seg_mono z (i := i + 1) n hi
  have h2 := (seg_bd z i).1
  unfold atF; rw [decide_eq_true_iff]; exact ⟨by have := h.1; omega, by have := h.2; omega⟩
theorem atF_no {z : Nat → Nat → Int} {t : Int} {n : Nat} (h : t < 0 ∨ seg z n ≤ t) : atF z t n = false := by
  unfold atF; rw [decide_eq_false_iff_not]; omega
theorem atF_succ_yes {z : Nat → Nat → Int} {t : Int} {k : Nat} (h : InS z t k) : atF z t (k + 1) = true := atF_yes h (by omega)
theorem atF_succ_no {z : Nat → Nat → Int} {t : Int} {k : Nat} (h : ¬ InS z t k) : atF z t (k + 1) = atF z t k := by
  have h1 := seg_mono z (i := k) (k + 1) (by omega)
  have h2 := (seg_bd z k).1
  unfold InS at h
  unfold atF
  by_cases c : 0 ≤ t ∧ t < seg z k
  · rw [decide_eq_true c]; rw [decide_eq_true_iff]; omega
  · rw [decide_eq_false c]; rw [decide_eq_false_iff_not]; omega
/-- some segment has each tick ahead of the end -/
theorem inS_ex {z : Nat → Nat → Int} {t : Int} (h0 : 0 ≤ t) : ∀ n, t < seg z n → ∃ i, i < n ∧ InS z t i
  | 0, h => by rw [seg_zero] at h; omega
  | n + 1, h => by
    by_cases c : seg z n ≤ t
    · exact ⟨n, by omega, c, h⟩
    · obtain ⟨i, hi, hs⟩ := inS_ex (z := z) h0 n (by omega)
      exact ⟨i, by omega, hs⟩
end Go.Proofs.Ytjokekohmncmkac
