/- The weights and the table of a rate, as numbers: how many weights there are, that their sum stays small, and that the table rises to the whole. -/
import Derived.Test.YtkepplkfjcoemabRows
import Derived.WalkKit
namespace Go.Proofs.Ytkepplkfjcoemab
open Go.RowKit
set_option linter.unusedVariables false
/-- how much k weighs (f: the first one; r in 1000) -/
def wk (f r : Nat) : Nat → Nat
  | 0 => f
  | k + 1 => wk f r k * r / (1000 * (k + 1))
theorem wk_succ (f r k : Nat) : wk f r (k + 1) = wk f r k * r / (1000 * (k + 1)) := rfl
theorem wk_mono (f : Nat) {r s : Nat} (h : r ≤ s) (k : Nat) : wk f r k ≤ wk f s k := by
  induction k with
  | zero => exact Nat.le_refl _
  | succ k ih => rw [wk_succ, wk_succ]; exact Nat.div_le_div_right (Nat.mul_le_mul ih h)
/-- the first k weights together -/
def sm (f r : Nat) : Nat → Nat
  | 0 => 0
  | k + 1 => sm f r k + wk f r k
theorem sm_succ (f r k : Nat) : sm f r (k + 1) = sm f r k + wk f r k := rfl
theorem sm_rate (f : Nat) {r s : Nat} (h : r ≤ s) (k : Nat) : sm f r k ≤ sm f s k := by
  induction k with
  | zero => exact Nat.le_refl _
  | succ k ih => rw [sm_succ, sm_succ]; have := wk_mono f h k; omega
theorem sm_mono (f r : Nat) {j k : Nat} (h : j ≤ k) : sm f r j ≤ sm f r k := by
  induction h with
  | refl => exact Nat.le_refl _
  | step _ ih => rw [sm_succ]; omega
theorem wk_le_sm (f r k : Nat) : wk f r k ≤ sm f r (k + 1) := by rw [sm_succ]; omega
theorem wk_end : wk 67108864 4000 40 = 0 := by decide +kernel
theorem sm_end : sm 67108864 4000 40 < 4294967296 := by decide +kernel
theorem first_zero (f r : Nat) : ∀ m, wk f r m = 0 → ∃ n, n ≤ m ∧ wk f r n = 0 ∧ ∀ i, i < n → 0 < wk f r i
  | 0, h => ⟨0, Nat.le_refl _, h, fun i hi => absurd hi (by omega)⟩
  | m + 1, h => by
    by_cases h0 : ∃ j, j ≤ m ∧ wk f r j = 0
    · obtain ⟨j, hj, hz⟩ := h0
      obtain ⟨n, hn, e, hp⟩ := first_zero f r j hz
      exact ⟨n, by omega, e, hp⟩
    · refine ⟨m + 1, Nat.le_refl _, h, fun i hi => Nat.pos_of_ne_zero fun e => h0 ⟨i, by omega, e⟩⟩
/-- how many weights there are, and what holds of them -/
theorem many_weights {r : Nat} (hr : r ≤ 4000) : ∃ n, 1 ≤ n ∧ n ≤ 40 ∧ wk 67108864 r n = 0 ∧ (∀ i, i < n → 0 < wk 67108864 r i) ∧ (∀ k, k ≤ n → sm 67108864 r k < 4294967296) ∧ 0 < sm 67108864 r n := by
  have h40 : wk 67108864 r 40 = 0 := Nat.le_zero.1 (wk_end ▸ wk_mono 67108864 hr 40)
  obtain ⟨n, hn, e, hp⟩ := first_zero 67108864 r 40 h40
  have hn1 : 1 ≤ n := by
    rcases n with _ | n
    · exact absurd (show (67108864 : Nat) = 0 from e) (by decide)
    · omega
  refine ⟨n, hn1, hn, e, hp, fun k hk => ?_, ?_⟩
  · exact Nat.lt_of_le_of_lt (Nat.le_trans (sm_rate 67108864 hr k) (sm_mono 67108864 4000 (by omega))) sm_end
  · exact Nat.lt_of_lt_of_le (hp 0 hn1) (Nat.le_trans (wk_le_sm 67108864 r 0) (sm_mono 67108864 r hn1))
/-- the table's place i: of all words so many mean no more -/
def tbv (W f r n i : Nat) : Nat := sm f r (i + 1) * W / sm f r n
theorem tbv_mono (W f r n : Nat) {i j : Nat} (h : i ≤ j) : tbv W f r n i ≤ tbv W f r n j := by
  unfold tbv; exact Nat.div_le_div_right (Nat.mul_le_mul_right _ (sm_mono f r (by omega)))
theorem tbv_last (W f r n : Nat) (hn : 1 ≤ n) (h : 0 < sm f r n) : tbv W f r n (n - 1) = W := by
  unfold tbv; rw [show n - 1 + 1 = n by omega, Nat.mul_comm, Nat.mul_div_cancel _ h]
theorem tbv_le (W f r n : Nat) {i : Nat} (hi : i < n) (h : 0 < sm f r n) : tbv W f r n i ≤ W := by
  have h1 := tbv_last W f r n (by omega) h
  have h2 := tbv_mono W f r n (show i ≤ n - 1 by omega)
  omega
end Go.Proofs.Ytkepplkfjcoemab
