/- Columns: mathematics: the columns' widths, column by column. -/
import Derived.Test.YtkonghjmipclmaaDoorRows
import Derived.Test.YtkonghjmipclmaaDoorColW
namespace Go.Proofs.YtkonghjmipclmaaDoor
open Go.RowKit
set_option linter.unusedVariables false
/-- the greatest length of a column in the first rows -/
def cmx (n : Nat → Nat) (tb : Nat → Nat → ByteArray) (k : Nat) : Nat → Int
  | 0 => 0
  | i + 1 => if k < n i then max (cmx n tb k i) ((tb i k).size : Int) else cmx n tb k i
/-- has some of the first rows such a column? -/
def csm (n : Nat → Nat) (k : Nat) : Nat → Bool
  | 0 => false
  | i + 1 => if k < n i then true else csm n k i
theorem csm_iff (n : Nat → Nat) (tb : Nat → Nat → ByteArray) (k : Nat) : ∀ N, csm n k N = decide (k < (wdCols n tb N).1)
  | 0 => rfl
  | N + 1 => by
    have ih := csm_iff n tb k N
    have hl : (wdCols n tb (N + 1)).1 = max (wdCols n tb N).1 (n N) := wdRow_len _ _ _
    rw [hl]
    show (if k < n N then true else csm n k N) = _
    by_cases h : k < n N
    · rw [if_pos h]
      symm
      rw [decide_eq_true_iff]
      omega
    · rw [if_neg h, ih]
      by_cases h2 : k < (wdCols n tb N).1
      · rw [decide_eq_true h2, decide_eq_true (by omega)]
      · rw [decide_eq_false h2, decide_eq_false (by omega)]
theorem cmx_zero (n : Nat → Nat) (tb : Nat → Nat → ByteArray) (k : Nat) : ∀ N, ¬ k < (wdCols n tb N).1 → cmx n tb k N = 0
  | 0, _ => rfl
  | N + 1, h => by
    have hl : (wdCols n tb (N + 1)).1 = max (wdCols n tb N).1 (n N) := wdRow_len _ _ _
    rw [hl] at h
    show (if k < n N then _ else _) = _
    rw [if_neg (by omega)]
    exact cmx_zero n tb k N (by omega)
theorem wdRow_val (p : Nat × (Nat → Int)) (t : Nat → ByteArray) (i : Nat) : ∀ j, (wdRow p t j).2 i = if i < j then max (if i < p.1 then p.2 i else 0) ((t i).size : Int) else p.2 i
  | 0 => rfl
  | j + 1 => by
    have ih := wdRow_val p t i j
    have hl := wdRow_len p t j
    show (wdSt (wdRow p t j) j (t j).size).2 i = _
    unfold wdSt
    by_cases h : j = (wdRow p t j).1
    · rw [if_pos h]
      show (if i = j then max 0 ((t j).size : Int) else (wdRow p t j).2 i) = _
      by_cases q : i = j
      · subst q
        rw [if_pos rfl, if_pos (by omega), if_neg (by omega)]
      · rw [if_neg q, ih]
        by_cases r : i < j
        · rw [if_pos r, if_pos (by omega : i < j + 1)]
        · rw [if_neg r, if_neg (by omega : ¬ i < j + 1)]
    · rw [if_neg h]
      show (if i = j then max ((wdRow p t j).2 j) ((t j).size : Int) else (wdRow p t j).2 i) = _
      by_cases q : i = j
      · subst q
        rw [if_pos rfl, if_pos (by omega), ih, if_neg (by omega), if_pos (by omega)]
      · rw [if_neg q, ih]
        by_cases r : i < j
        · rw [if_pos r, if_pos (by omega : i < j + 1)]
        · rw [if_neg r, if_neg (by omega : ¬ i < j + 1)]
theorem cmx_eq (n : Nat → Nat) (tb : Nat → Nat → ByteArray) (k : Nat) : ∀ N, k < (wdCols n tb N).1 → (wdCols n tb N).2 k = cmx n tb k N
  | 0, h => absurd h (Nat.not_lt_zero _)
  | N + 1, h => by
    have hl : (wdCols n tb (N + 1)).1 = max (wdCols n tb N).1 (n N) := wdRow_len _ _ _
    rw [hl] at h
    show (wdRow (wdCols n tb N) (tb N) (n N)).2 k = if k < n N then max (cmx n tb k N) ((tb N k).size : Int) else cmx n tb k N
    rw [wdRow_val]
    by_cases q : k < n N
    · rw [if_pos q, if_pos q]
      by_cases r : k < (wdCols n tb N).1
      · rw [if_pos r, cmx_eq n tb k N r]
      · rw [if_neg r, cmx_zero n tb k N r]
    · rw [if_neg q, if_neg q]
      exact cmx_eq n tb k N (by omega)
theorem cmx_b {n : Nat → Nat} {tb : Nat → Nat → ByteArray} {k : Nat} {M : Int} (hM : 0 ≤ M) : ∀ N, (∀ i, i < N → ∀ j, j < n i → ((tb i j).size : Int) ≤ M) → 0 ≤ cmx n tb k N ∧ cmx n tb k N ≤ M
  | 0, _ => ⟨Int.le_refl _, hM⟩
  | N + 1, h => by
    have ih := cmx_b (k := k) hM N (fun i hi => h i (by omega))
    show 0 ≤ (if k < n N then max (cmx n tb k N) ((tb N k).size : Int) else cmx n tb k N) ∧ (if k < n N then max (cmx n tb k N) ((tb N k).size : Int) else cmx n tb k N) ≤ M
    by_cases q : k < n N
    · have := h N (by omega) k q
      rw [if_pos q]; omega
    · rw [if_neg q]; exact ih
theorem wdCols_same (n : Nat → Nat) (tb : Nat → Nat → ByteArray) (N : Nat) : rowL (fun k => cmx n tb k N) (wdCols n tb N).1 = rowL (wdCols n tb N).2 (wdCols n tb N).1 := rowL_congr fun k hk => (cmx_eq n tb k N hk).symm
end Go.Proofs.YtkonghjmipclmaaDoor
