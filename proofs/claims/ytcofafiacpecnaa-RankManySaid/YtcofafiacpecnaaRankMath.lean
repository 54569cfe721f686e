/- Percentiles: the plain mathematics. -/
import Derived.Test.YtcofafiacpecnaaRowKit
import Derived.Test.YtcofafiacpecnaaSeqB
namespace Go.Proofs.Ytcofafiacpecnaa
/-- how many of the first k are no greater -/
def blN (zs : List Int) (y : Int) : Nat → Nat
  | 0 => 0
  | k + 1 => blN zs y k + if zat zs k ≤ y then 1 else 0
theorem bl_yes {zs : List Int} {y : Int} {k : Nat} (h : zat zs k ≤ y) : blN zs y (k + 1) = blN zs y k + 1 := by
  show blN zs y k + (if zat zs k ≤ y then 1 else 0) = _; rw [if_pos h]
theorem bl_no {zs : List Int} {y : Int} {k : Nat} (h : ¬ zat zs k ≤ y) : blN zs y (k + 1) = blN zs y k := by
  show blN zs y k + (if zat zs k ≤ y then 1 else 0) = _; rw [if_neg h]; rfl
theorem bl_le (zs : List Int) (y : Int) : ∀ k, blN zs y k ≤ k
  | 0 => Nat.le_refl _
  | k + 1 => by
    have := bl_le zs y k
    by_cases h : zat zs k ≤ y
    · rw [bl_yes h]; omega
    · rw [bl_no h]; omega
theorem bl_count (zs : List Int) (y : Int) : ∀ k, k ≤ zs.length → blN zs y k = (zs.take k).countP fun z => decide (z ≤ y)
  | 0, _ => by simp [blN]
  | k + 1, h => by
    rw [take_zat h, List.countP_append, ← bl_count zs y k (by omega)]
    by_cases c : zat zs k ≤ y
    · rw [bl_yes c]; simp [c]
    · rw [bl_no c]; simp [c]
theorem bl_srt (zs : List Int) (y : Int) : blN (srt zs) y zs.length = blN zs y zs.length := by
  have e1 := bl_count (srt zs) y zs.length (by rw [srt_len]; omega)
  have e2 := bl_count zs y zs.length (Nat.le_refl _)
  rw [List.take_of_length_le (by rw [srt_len]; omega)] at e1
  rw [List.take_of_length_le (Nat.le_refl _)] at e2
  rw [e1, e2]
  exact (List.mergeSort_perm zs _).countP_eq _
theorem srt_le {zs : List Int} {i j : Nat} (h : i ≤ j) (hj : j < zs.length) : zat (srt zs) i ≤ zat (srt zs) j := by
  have P : (srt zs).Pairwise (fun x y : Int => x ≤ y) := by
    have := List.pairwise_mergeSort (le := fun x y : Int => decide (x ≤ y)) (fun a b c h1 h2 => by simp at *; omega) (fun a b => by simp; omega) zs
    exact this.imp (by simp)
  by_cases e : i = j
  · rw [e]; exact Int.le_refl _
  · have hi : i < (srt zs).length := by rw [srt_len]; omega
    have hj' : j < (srt zs).length := by rw [srt_len]; omega
    have := List.pairwise_iff_getElem.1 P i j hi hj' (by omega)
    unfold zat
    rw [List.getD_eq_getElem?_getD, List.getD_eq_getElem?_getD, List.getElem?_eq_getElem hi, List.getElem?_eq_getElem hj']
    exact this
theorem bl_all {zs : List Int} {y : Int} : ∀ {k : Nat}, (∀ i, i < k → zat zs i ≤ y) → blN zs y k = k
  | 0, _ => rfl
  | k + 1, h => by rw [bl_yes (h k (by omega)), bl_all fun i hi => h i (by omega)]
theorem bl_mono (zs : List Int) (y : Int) {j k : Nat} (h : j ≤ k) : blN zs y j ≤ blN zs y k := by
  induction k with
  | zero => rw [show j = 0 by omega]; exact Nat.le_refl _
  | succ k ih =>
    by_cases e : j = k + 1
    · rw [e]; exact Nat.le_refl _
    · have := ih (by omega)
      by_cases c : zat zs k ≤ y
      · rw [bl_yes c]; omega
      · rw [bl_no c]; omega
theorem bl_none {zs : List Int} {y : Int} {k : Nat} : ∀ {j : Nat}, k ≤ j → (∀ i, k ≤ i → i < j → ¬ zat zs i ≤ y) → blN zs y j = blN zs y k
  | 0, h, _ => by rw [show k = 0 by omega]
  | j + 1, h, hn => by
    by_cases e : k = j + 1
    · rw [e]
    · rw [bl_no (hn j (by omega) (by omega)), bl_none (by omega) fun i h1 h2 => hn i h1 (by omega)]
/-- as many as k are at or below the number at the k-th place -/
theorem bl_ge {zs : List Int} {k : Nat} (h0 : 0 < k) (hk : k ≤ zs.length) : k ≤ blN zs (zat (srt zs) (k - 1)) zs.length := by
  rw [← bl_srt]
  have e : blN (srt zs) (zat (srt zs) (k - 1)) k = k := bl_all fun i hi => srt_le (by omega) (by omega)
  have := bl_mono (srt zs) (zat (srt zs) (k - 1)) hk
  omega
/-- fewer are at or below a lesser one -/
theorem bl_lt {zs : List Int} {k : Nat} {y : Int} (h0 : 0 < k) (hk : k ≤ zs.length) (hy : y < zat (srt zs) (k - 1)) : blN zs y zs.length < k := by
  rw [← bl_srt, bl_none (k := k - 1) (by omega) fun i h1 h2 => by have := srt_le (zs := zs) h1 h2; omega]
  have := bl_le (srt zs) y (k - 1)
  omega
theorem srt_in {zs : List Int} {k : Nat} (hk : k < zs.length) : ∃ i, i < zs.length ∧ zat zs i = zat (srt zs) k := by
  obtain ⟨i, hi, e⟩ := mem_zat (srt_mem.1 (zat_mem (zs := srt zs) (i := k) (by rw [srt_len]; exact hk)))
  exact ⟨i, hi, e⟩
/-- the place of a percentile: by hundreds, and what is left -/
structure PlR (p m A B q : Int) : Prop where
  a : m / 100 * p = A
  b : m % 100 * p = B
  qe : (B + 99) / 100 = q
  a0 : 0 ≤ A
  b0 : 0 ≤ B
  b1 : B ≤ 9900
  k0 : 1 ≤ A + q
  k1 : A + q ≤ m
  am : A ≤ m
  s : p * m = 100 * A + B
theorem pl_of {p m : Int} (p1 : 1 ≤ p) (p2 : p ≤ 100) (m1 : 1 ≤ m) : PlR p m (m / 100 * p) (m % 100 * p) ((m % 100 * p + 99) / 100) := by
  obtain ⟨h, hh⟩ : ∃ h, m / 100 = h := ⟨_, rfl⟩
  obtain ⟨r, hr⟩ : ∃ r, m % 100 = r := ⟨_, rfl⟩
  have hm : m = 100 * h + r := by omega
  have h0 : 0 ≤ h := by omega
  have r0 : 0 ≤ r := by omega
  have r1 : r < 100 := by omega
  have A0 : 0 ≤ h * p := Int.mul_nonneg h0 (by omega)
  have B0 : 0 ≤ r * p := Int.mul_nonneg r0 (by omega)
  have A1 : h * p ≤ h * 100 := Int.mul_le_mul_of_nonneg_left p2 h0
  have B1 : r * p ≤ r * 100 := Int.mul_le_mul_of_nonneg_left p2 r0
  have s : p * m = 100 * (h * p) + r * p := by rw [hm, Int.mul_add, Int.mul_comm p r, Int.mul_comm p (100 * h), Int.mul_assoc]
  have s1 : 1 * 1 ≤ p * m := Int.mul_le_mul p1 m1 (by omega) (by omega)
  rw [hh, hr]
  exact ⟨by rw [hh], by rw [hr], rfl, A0, B0, by omega, by omega, by omega, by omega, s⟩
end Go.Proofs.Ytcofafiacpecnaa
