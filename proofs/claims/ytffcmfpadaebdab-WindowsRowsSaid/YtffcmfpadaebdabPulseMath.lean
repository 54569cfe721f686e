/- Layer 63: how many of some ticks lie in each time; sums of so many places; differences. Plain numbers. -/
import Derived.Test.YtffcmfpadaebdabRows
import Derived.Test.YtffcmfpadaebdabRowKit
import Derived.Test.YtffcmfpadaebdabRowL
import Derived.WalkKit
import Derived.Lib.Hide
namespace Go.Proofs.Ytffcmfpadaebdab
open Go.RowKit
set_option linter.unusedVariables false
/-- how many of the first k ticks lie in each time -/
def pcnt (d h : Int) (zs : List Int) : Nat → Nat → Int
  | 0, _ => 0
  | k + 1, i => if 0 ≤ zat zs k ∧ zat zs k < h ∧ i = (zat zs k / d).toNat then pcnt d h zs k i + 1 else pcnt d h zs k i
theorem pcnt_succ (d h : Int) (zs : List Int) (k i : Nat) : pcnt d h zs (k + 1) i = if 0 ≤ zat zs k ∧ zat zs k < h ∧ i = (zat zs k / d).toNat then pcnt d h zs k i + 1 else pcnt d h zs k i := rfl
theorem pcnt_bd (d h : Int) (zs : List Int) : ∀ k i, 0 ≤ pcnt d h zs k i ∧ pcnt d h zs k i ≤ k
  | 0, i => by show (0 : Int) ≤ 0 ∧ (0 : Int) ≤ 0; omega
  | k + 1, i => by
    have := pcnt_bd d h zs k i
    rw [pcnt_succ]
    split <;> omega
theorem pcnt_wf (d h : Int) (zs : List Int) (n k : Nat) (hk : k ≤ 1000) : ∀ i, i < (rowL (pcnt d h zs k) n).length → (Lit.int .i64 (zat (rowL (pcnt d h zs k) n) i)).wf = true := by
  intro i hi
  rw [rowL_len] at hi
  rw [rowL_at _ hi]
  have := pcnt_bd d h zs k i
  exact WalkArith.wf_i64 (by omega)
/-- how many times there are -/
def manyP (d h : Int) : Nat := (h / d + if h % d = 0 then 0 else 1).toNat
theorem manyP_bd {d h : Int} (hd : 1 ≤ d) (hh : 0 ≤ h) (hm : h ≤ 9223372036854775807) : 0 ≤ h / d ∧ h / d ≤ 9223372036854775807 ∧ 0 ≤ h % d ∧ h % d < d :=
  ⟨Int.ediv_nonneg hh (by omega), by have := Int.ediv_le_self d hh; omega, Int.emod_nonneg _ (by omega), Int.emod_lt_of_pos _ (by omega)⟩
theorem manyP_even {d h : Int} (hd : 1 ≤ d) (hh : 0 ≤ h) (hr : h % d = 0) : h / d = manyP d h := by
  have : 0 ≤ h / d := Int.ediv_nonneg hh (by omega)
  unfold manyP; rw [if_pos hr]; omega
theorem manyP_odd {d h : Int} (hd : 1 ≤ d) (hh : 0 ≤ h) (hm : h ≤ 9223372036854775807) (hr : h % d ≠ 0) : ∃ m : Nat, h / d = m ∧ manyP d h = m + 1 ∧ (m : Int) + 1 ≤ 9223372036854775807 := by
  have h0 : 0 ≤ h / d := Int.ediv_nonneg hh (by omega)
  refine ⟨(h / d).toNat, by omega, by unfold manyP; rw [if_neg hr]; omega, ?_⟩
  have hd2 : 2 ≤ d := by
    rcases Int.lt_or_le d 2 with h1 | h1
    · exfalso; have : d = 1 := by omega
      subst this; omega
    · exact h1
  have e := Int.mul_ediv_add_emod h d
  have : 2 * (h / d) ≤ d * (h / d) := Int.mul_le_mul_of_nonneg_right hd2 h0
  have := Int.emod_nonneg h (show d ≠ 0 by omega)
  omega
theorem pos_lt {d h x : Int} (hd : 1 ≤ d) (hx : 0 ≤ x) (hxh : x < h) : (x / d).toNat < manyP d h ∧ x / d = ((x / d).toNat : Int) := by
  have h0 : 0 ≤ x / d := Int.ediv_nonneg hx (by omega)
  refine ⟨?_, by omega⟩
  by_cases hr : h % d = 0
  · have e := manyP_even hd (by omega) hr
    have e2 := Int.mul_ediv_add_emod h d
    have : x / d < h / d := Int.ediv_lt_of_lt_mul (by omega) (by rw [Int.mul_comm]; omega)
    omega
  · have : x / d ≤ h / d := Int.ediv_le_ediv (by omega) (by omega)
    unfold manyP; rw [if_neg hr]; omega
/-- the law's row: told up to a place, at it up to a tick, then nothing -/
def pstg (d h : Int) (zs : List Int) (i k : Nat) (j : Nat) : Int := if j < i then pcnt d h zs zs.length j else if j = i then pcnt d h zs k j else 0
theorem pstg_start (d h : Int) (zs : List Int) (n : Nat) : rowL (pstg d h zs 0 0) n = rowL (fun _ => 0) n :=
  rowL_congr fun j _ => by unfold pstg; rw [if_neg (by omega)]; split <;> rfl
theorem pstg_next (d h : Int) (zs : List Int) (i n : Nat) : rowL (pstg d h zs i zs.length) n = rowL (pstg d h zs (i + 1) 0) n :=
  rowL_congr fun j _ => by
    unfold pstg
    by_cases h1 : j < i
    · rw [if_pos h1, if_pos (by omega)]
    · rw [if_neg h1]
      by_cases h2 : j = i
      · rw [if_pos h2, if_pos (by omega)]
      · rw [if_neg h2, if_neg (by omega)]; split <;> rfl
theorem pstg_end (d h : Int) (zs : List Int) (n : Nat) : rowL (pstg d h zs n 0) n = rowL (pcnt d h zs zs.length) n :=
  rowL_congr fun j hj => by unfold pstg; rw [if_pos hj]
theorem pstg_at (d h : Int) (zs : List Int) (i k : Nat) : pstg d h zs i k i = pcnt d h zs k i := by unfold pstg; rw [if_neg (by omega), if_pos rfl]
theorem pstg_skip {d h : Int} {zs : List Int} {i k : Nat} (hc : ¬ (0 ≤ zat zs k ∧ zat zs k < h ∧ i = (zat zs k / d).toNat)) (n : Nat) : rowL (pstg d h zs i (k + 1)) n = rowL (pstg d h zs i k) n :=
  rowL_congr fun j _ => by
    unfold pstg
    by_cases h2 : j = i
    · rw [if_neg (by omega), if_pos h2, if_neg (by omega), if_pos h2, pcnt_succ, if_neg (by rw [h2]; exact hc)]
    · rw [if_neg h2, if_neg h2]
theorem pstg_put {d h : Int} {zs : List Int} {i k : Nat} (hc : 0 ≤ zat zs k ∧ zat zs k < h ∧ i = (zat zs k / d).toNat) (n : Nat) : (rowL (pstg d h zs i k) n).set i (pcnt d h zs k i + 1) = rowL (pstg d h zs i (k + 1)) n := by
  rw [rowL_set]
  refine rowL_congr fun j _ => ?_
  show (if j = i then _ else pstg d h zs i k j) = _
  unfold pstg
  by_cases h2 : j = i
  · subst h2
    rw [if_pos rfl, if_neg (by omega), if_pos rfl, pcnt_succ, if_pos hc]
  · rw [if_neg h2, if_neg h2, if_neg h2]
/-- the first k numbers together -/
def pfx (zs : List Int) : Nat → Int
  | 0 => 0
  | k + 1 => pfx zs k + zat zs k
theorem pfx_succ (zs : List Int) (k : Nat) : pfx zs (k + 1) = pfx zs k + zat zs k := rfl
theorem pfx_zero (zs : List Int) : pfx zs 0 = 0 := rfl
theorem w64_l (a b : Int) : wrap64 (wrap64 a + b) = wrap64 (a + b) := by unfold wrap64; omega
theorem w64_s (a b : Int) : wrap64 (wrap64 a - b) = wrap64 (a - b) := by unfold wrap64; omega
theorem w64_bd (a : Int) : -9223372036854775808 ≤ wrap64 a ∧ wrap64 a ≤ 9223372036854775807 := by unfold wrap64; omega
theorem w64_wf (a : Int) : (Lit.int .i64 (wrap64 a)).wf = true := wrap64_wf a
/-- the sum that stands in the loop behind the first i places -/
def slid (zs : List Int) (k i : Nat) : Int := wrap64 (pfx zs i - pfx zs (i - k))
theorem slid_zero (zs : List Int) (k : Nat) : slid zs k 0 = 0 := by unfold slid; rw [Nat.zero_sub, pfx_zero]; simp [wrap64]
theorem slid_in {zs : List Int} {k i : Nat} (h : i < k) : slid zs k (i + 1) = wrap64 (slid zs k i + zat zs i) := by
  unfold slid
  rw [show i + 1 - k = 0 by omega, show i - k = 0 by omega, w64_l, pfx_succ, pfx_zero]
  congr 1; omega
theorem slid_on {zs : List Int} {k i : Nat} (hk : 1 ≤ k) (h : k ≤ i) : slid zs k (i + 1) = wrap64 (wrap64 (slid zs k i + zat zs i) - zat zs (i - k)) := by
  unfold slid
  rw [w64_l, w64_s, show i + 1 - k = (i - k) + 1 by omega, pfx_succ, pfx_succ]
  congr 1; omega
/-- the sum of k places from one on -/
def winS (zs : List Int) (k i : Nat) : Int := slid zs k (i + k)
theorem winS_eq (zs : List Int) (k i : Nat) : winS zs k i = wrap64 (pfx zs (i + k) - pfx zs i) := by unfold winS slid; rw [show i + k - k = i by omega]
theorem winS_bd (zs : List Int) (k i : Nat) : -9223372036854775808 ≤ winS zs k i ∧ winS zs k i ≤ 9223372036854775807 := w64_bd _
theorem winS_wf (zs : List Int) (k n : Nat) : ∀ i, i < (rowL (winS zs k) n).length → (Lit.int .i64 (zat (rowL (winS zs k) n) i)).wf = true := by
  intro i hi
  rw [rowL_len] at hi
  rw [rowL_at _ hi]
  exact w64_wf _
/-- the law's sum: m places from i on -/
def wsum (zs : List Int) (i m : Nat) : Int := wrap64 (pfx zs (i + m) - pfx zs i)
theorem wsum_zero (zs : List Int) (i : Nat) : wsum zs i 0 = 0 := by unfold wsum; rw [Nat.add_zero, Int.sub_self]; simp [wrap64]
theorem wsum_succ (zs : List Int) (i m : Nat) : wsum zs i (m + 1) = wrap64 (wsum zs i m + zat zs (i + m)) := by
  unfold wsum
  rw [w64_l, ← Nat.add_assoc, pfx_succ]
  congr 1; omega
theorem wsum_win (zs : List Int) (i k : Nat) : wsum zs i k = winS zs k i := (winS_eq zs k i).symm
/-- p is the first of the greatest of the first m -/
def PeakAt (s : Nat → Int) (m p : Nat) : Prop := p < m ∧ (∀ j, j < m → s j ≤ s p) ∧ ∀ j, j < p → s j < s p
theorem peak_one (s : Nat → Int) : PeakAt s 1 0 := ⟨by omega, fun j hj => by rw [show j = 0 by omega]; exact Int.le_refl _, fun j hj => absurd hj (by omega)⟩
theorem peak_up {s : Nat → Int} {m p : Nat} (h : PeakAt s m p) (hg : s p < s m) : PeakAt s (m + 1) m :=
  ⟨by omega, fun j hj => by
    by_cases e : j = m
    · rw [e]; exact Int.le_refl _
    · have := h.2.1 j (by omega); omega, fun j hj => by have := h.2.1 j hj; omega⟩
theorem peak_on {s : Nat → Int} {m p : Nat} (h : PeakAt s m p) (hg : ¬ s p < s m) : PeakAt s (m + 1) p :=
  ⟨by have := h.1; omega, fun j hj => by
    by_cases e : j = m
    · rw [e]; omega
    · exact h.2.1 j (by omega), h.2.2⟩
end Go.Proofs.Ytffcmfpadaebdab
