/- Weights of places: sums from the left, whether there may be such weights, and the place that a number is at. -/
import Derived.Test.YtnjdeikikdieoaaRows
import Derived.Test.YtnjdeikikdieoaaRowKit
import Derived.WalkKit
namespace Go.Proofs.Ytnjdeikikdieoaa
open Go.RowKit
set_option linter.unusedVariables false
/-- the first k weights together -/
def ps (zs : List Int) : Nat → Int
  | 0 => 0
  | k + 1 => ps zs k + zat zs k
theorem ps_succ (zs : List Int) (k : Nat) : ps zs (k + 1) = ps zs k + zat zs k := rfl
theorem ps_zero (zs : List Int) : ps zs 0 = 0 := rfl
/-- none is below 0 -/
def NN (zs : List Int) : Prop := ∀ i, i < zs.length → 0 ≤ zat zs i
theorem ps_mono {zs : List Int} (h : NN zs) {j k : Nat} (hj : j ≤ k) (hk : k ≤ zs.length) : ps zs j ≤ ps zs k := by
  induction hj with
  | refl => exact Int.le_refl _
  | @step m hm ih => rw [ps_succ]; have h1 := h m (by omega); have h2 := ih (by omega); omega
theorem ps_nonneg {zs : List Int} (h : NN zs) {k : Nat} (hk : k ≤ zs.length) : 0 ≤ ps zs k := by
  have := ps_mono h (Nat.zero_le k) hk
  rwa [ps_zero] at this
open Classical in
/-- the sum that is answered -/
noncomputable def totV (zs : List Int) : Int := if NN zs then (if 2147483648 < ps zs zs.length then 0 else ps zs zs.length) else 0
open Classical in
/-- the error that is answered -/
noncomputable def totE (zs : List Int) : Int := if NN zs then (if 2147483648 < ps zs zs.length then 21 else if ps zs zs.length = 0 then 22 else 0) else 22
theorem tot_neg {zs : List Int} (h : ¬ NN zs) : totV zs = 0 ∧ totE zs = 22 := ⟨if_neg h, if_neg h⟩
theorem tot_big {zs : List Int} (h : NN zs) (h1 : 2147483648 < ps zs zs.length) : totV zs = 0 ∧ totE zs = 21 := by
  unfold totV totE; rw [if_pos h, if_pos h, if_pos h1, if_pos h1]; exact ⟨rfl, rfl⟩
theorem tot_zero {zs : List Int} (h : NN zs) (h1 : ps zs zs.length = 0) : totV zs = 0 ∧ totE zs = 22 := by
  unfold totV totE; rw [if_pos h, if_pos h, if_neg (by omega), if_neg (by omega), if_pos h1]; exact ⟨h1, rfl⟩
theorem tot_ok {zs : List Int} (h : NN zs) (h1 : ps zs zs.length ≤ 2147483648) (h2 : 0 < ps zs zs.length) : totV zs = ps zs zs.length ∧ totE zs = 0 := by
  unfold totV totE; rw [if_pos h, if_pos h, if_neg (by omega), if_neg (by omega), if_neg (by omega)]; exact ⟨rfl, rfl⟩
/-- there may be such weights -/
def May (zs : List Int) : Prop := NN zs ∧ ps zs zs.length ≤ 2147483648 ∧ 0 < ps zs zs.length
theorem tot_cases (zs : List Int) : (totV zs = 0 ∧ (totE zs = 22 ∨ totE zs = 21) ∧ ¬ May zs) ∨ (totV zs = ps zs zs.length ∧ totE zs = 0 ∧ May zs) := by
  by_cases h : NN zs
  · by_cases h1 : 2147483648 < ps zs zs.length
    · obtain ⟨e1, e2⟩ := tot_big h h1
      exact .inl ⟨e1, .inr e2, fun hm => by have := hm.2.1; omega⟩
    · by_cases h2 : ps zs zs.length = 0
      · obtain ⟨e1, e2⟩ := tot_zero h h2
        exact .inl ⟨e1, .inl e2, fun hm => by have := hm.2.2; omega⟩
      · have h3 := ps_nonneg h (Nat.le_refl _)
        obtain ⟨e1, e2⟩ := tot_ok h (by omega) (by omega)
        exact .inr ⟨e1, e2, h, by omega, by omega⟩
  · obtain ⟨e1, e2⟩ := tot_neg h
    exact .inl ⟨e1, .inl e2, fun hm => h hm.1⟩
/-- place k is where the number n is: what is ahead of it is at most n, with it it is more -/
def AtP (zs : List Int) (n : Int) (k : Nat) : Prop := k < zs.length ∧ ps zs k ≤ n ∧ n < ps zs (k + 1)
theorem at_exists {zs : List Int} (n : Int) (h0 : 0 ≤ n) : ∀ m, m ≤ zs.length → n < ps zs m → ∃ k, k < m ∧ ps zs k ≤ n ∧ n < ps zs (k + 1)
  | 0, _, h => by rw [ps_zero] at h; omega
  | m + 1, hm, h => by
    by_cases h1 : n < ps zs m
    · obtain ⟨k, hk, h2⟩ := at_exists n h0 m (by omega) h1
      exact ⟨k, by omega, h2⟩
    · exact ⟨m, by omega, by omega, h⟩
theorem atP_of {zs : List Int} {n : Int} (h0 : 0 ≤ n) (h : n < ps zs zs.length) : ∃ k, AtP zs n k := by
  obtain ⟨k, hk, h1, h2⟩ := at_exists n h0 zs.length (Nat.le_refl _) h
  exact ⟨k, hk, h1, h2⟩
theorem atP_pos {zs : List Int} {n : Int} {k : Nat} (h : AtP zs n k) : 0 < zat zs k := by
  have := h.2.2; rw [ps_succ] at this; have := h.2.1; omega
theorem atP_mono {zs : List Int} (hn : NN zs) {n m : Int} {j k : Nat} (hj : AtP zs n j) (hk : AtP zs m k) (h : n ≤ m) : j ≤ k := by
  rcases Nat.lt_or_ge k j with h1 | h1
  · have h2 := ps_mono hn (show k + 1 ≤ j by omega) (Nat.le_of_lt hj.1)
    have h3 := hk.2.2
    have h4 := hj.2.1
    omega
  · exact h1
theorem atP_below {zs : List Int} (hn : NN zs) {n : Int} {k : Nat} (h : AtP zs n k) {j : Nat} (hj : j < k) : ps zs (j + 1) ≤ n :=
  Int.le_trans (ps_mono hn (show j + 1 ≤ k by omega) (Nat.le_of_lt h.1)) h.2.1
theorem least_of {p : Nat → Prop} (m : Nat) (h : p m) : ∃ k, k ≤ m ∧ p k ∧ ∀ j, j < k → ¬ p j := by
  induction m using Nat.strongRecOn with
  | ind m ih =>
    by_cases hc : ∃ j, j < m ∧ p j
    · obtain ⟨j, hj, hp⟩ := hc
      obtain ⟨k, hk, r⟩ := ih j hj hp
      exact ⟨k, by omega, r⟩
    · exact ⟨m, Nat.le_refl _, h, fun j hj e => hc ⟨j, hj, e⟩⟩
theorem not_nn {zs : List Int} (h : ¬ NN zs) : ∃ k, k < zs.length ∧ zat zs k < 0 ∧ ∀ j, j < k → 0 ≤ zat zs j := by
  have h1 : ∃ k, k < zs.length ∧ zat zs k < 0 := by
    apply Classical.byContradiction
    intro hc
    refine h fun i hi => Int.not_lt.1 fun hlt => hc ⟨i, hi, hlt⟩
  obtain ⟨k, hk, hlt⟩ := h1
  obtain ⟨k', hk', hp, hb⟩ := least_of (p := fun i => zat zs i < 0) k hlt
  exact ⟨k', by omega, hp, fun j hj => Int.not_lt.1 (hb j hj)⟩
/-- a place at which the sum is beyond the most for the first time -/
theorem first_big {zs : List Int} (M : Int) (hM : 0 ≤ M) (h : M < ps zs zs.length) : ∃ k, k < zs.length ∧ M < ps zs (k + 1) ∧ ∀ j, j ≤ k → ps zs j ≤ M := by
  obtain ⟨k, hk, hp, hb⟩ := least_of (p := fun i => M < ps zs i) zs.length h
  rcases k with _ | k
  · simp only [ps_zero] at hp; omega
  · exact ⟨k, by omega, hp, fun j hj => Int.not_lt.1 (hb j (by omega))⟩
end Go.Proofs.Ytnjdeikikdieoaa
