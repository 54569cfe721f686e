/- The numbers of a set, rising: the first from a number on, the last up to it; the document's Full. -/
import Derived.Test.YtbjcigkakeffmaaDoorRows
import Derived.Test.YtbjcigkakeffmaaDoorKitM
import Derived.Test.YtbjcigkakeffmaaDoorBitM
import Derived.Test.YtbjcigkakeffmaaDoorBitsU
import Derived.WalkKit
import Derived.IntWalk
import Derived.Lib.Hide
import Derived.WalkSpells
import Derived.WalkLawsBesides
namespace Go.Proofs.YtbjcigkakeffmaaDoor
open Go.RowKit
set_option linter.unusedSimpArgs false
set_option linter.unusedVariables false
theorem itL_sorted (F : Nat → Bool) : ∀ k, (itL F k).Pairwise (· < ·)
  | 0 => List.Pairwise.nil
  | k + 1 => by
    have ih := itL_sorted F k
    unfold itL
    split
    · refine List.pairwise_append.2 ⟨ih, List.pairwise_singleton _ _, fun a ha b hb => ?_⟩
      obtain ⟨m, h1, _, h3⟩ := (itL_mem F a k).1 ha
      have := List.mem_singleton.1 hb
      omega
    · exact ih
theorem itL_rise (F : Nat → Bool) (k i j : Nat) (hij : i < j) (hj : j < (itL F k).length) : zat (itL F k) i < zat (itL F k) j := by
  have h := List.pairwise_iff_getElem.1 (itL_sorted F k) i j (by omega) hj hij
  have hi := zat_get (show i < (itL F k).length by omega)
  have hj' := zat_get hj
  rw [List.getElem?_eq_getElem (by omega)] at hi
  rw [List.getElem?_eq_getElem hj] at hj'
  rw [Option.some.inj hi, Option.some.inj hj'] at h
  exact h
theorem itL_at (F : Nat → Bool) (i : Nat) (h : i < (itL F 128).length) : ∃ m : Nat, m < 128 ∧ F m = true ∧ zat (itL F 128) i = m := (itL_mem F _ 128).1 (zat_mem h)
theorem itL_has (F : Nat → Bool) (m : Nat) (hm : m < 128) (h : F m = true) : ∃ i, i < (itL F 128).length ∧ zat (itL F 128) i = m := mem_zat ((itL_mem F _ 128).2 ⟨m, hm, h, rfl⟩)
/-- the first of a row, sought from its end, that is not below n; the last that is not above it -/
def upA (l : List Int) (n : Int) (N : Nat) : Nat → Int × Bool
  | 0 => (0, false)
  | k + 1 => if n ≤ zat l (N - 1 - k) then (zat l (N - 1 - k), true) else upA l n N k
def dnA (l : List Int) (n : Int) : Nat → Int × Bool
  | 0 => (0, false)
  | k + 1 => if zat l k ≤ n then (zat l k, true) else dnA l n k
theorem up_spec (l : List Int) (n : Int) (N : Nat) : ∀ k, k ≤ N → (∃ i, N - k ≤ i ∧ i < N ∧ upA l n N k = (zat l i, true) ∧ n ≤ zat l i ∧ ∀ j, N - k ≤ j → j < i → zat l j < n) ∨ (upA l n N k = (0, false) ∧ ∀ j, N - k ≤ j → j < N → zat l j < n)
  | 0, _ => .inr ⟨rfl, fun j h1 h2 => by omega⟩
  | k + 1, hk => by
    unfold upA
    by_cases h : n ≤ zat l (N - 1 - k)
    · rw [if_pos h]
      exact .inl ⟨N - 1 - k, by omega, by omega, rfl, h, fun j h1 h2 => by omega⟩
    · rw [if_neg h]
      rcases up_spec l n N k (by omega) with ⟨i, h1, h2, h3, h4, h5⟩ | ⟨h1, h2⟩
      · refine .inl ⟨i, by omega, h2, h3, h4, fun j g1 g2 => ?_⟩
        by_cases e : j = N - 1 - k
        · subst e; omega
        · exact h5 j (by omega) g2
      · refine .inr ⟨h1, fun j g1 g2 => ?_⟩
        by_cases e : j = N - 1 - k
        · subst e; omega
        · exact h2 j (by omega) g2
theorem dn_spec (l : List Int) (n : Int) : ∀ k, (∃ i, i < k ∧ dnA l n k = (zat l i, true) ∧ zat l i ≤ n ∧ ∀ j, i < j → j < k → n < zat l j) ∨ (dnA l n k = (0, false) ∧ ∀ j, j < k → n < zat l j)
  | 0 => .inr ⟨rfl, fun j h => by omega⟩
  | k + 1 => by
    unfold dnA
    by_cases h : zat l k ≤ n
    · rw [if_pos h]
      exact .inl ⟨k, by omega, rfl, h, fun j h1 h2 => by omega⟩
    · rw [if_neg h]
      rcases dn_spec l n k with ⟨i, h2, h3, h4, h5⟩ | ⟨h1, h2⟩
      · refine .inl ⟨i, by omega, h3, h4, fun j g1 g2 => ?_⟩
        by_cases e : j = k
        · subst e; omega
        · exact h5 j g1 (by omega)
      · refine .inr ⟨h1, fun j g2 => ?_⟩
        by_cases e : j = k
        · subst e; omega
        · exact h2 j (by omega)
theorem lo_up (F : Nat → Bool) (n : Int) : IsLo (geF F n) (upA (itL F 128) n (itL F 128).length (itL F 128).length).1 (upA (itL F 128) n (itL F 128).length (itL F 128).length).2 := by
  rcases up_spec (itL F 128) n (itL F 128).length _ (Nat.le_refl _) with ⟨i, _, h2, h3, h4, h5⟩ | ⟨h1, h2⟩
  · rw [h3]
    obtain ⟨m, hm, hF, e⟩ := itL_at F i h2
    refine .inl ⟨rfl, m, e, hm, ?_, fun j hj => ?_⟩
    · unfold geF lowF
      rw [hF, decide_eq_false (by omega)]; rfl
    · cases hj2 : geF F n j
      · rfl
      · exfalso
        unfold geF lowF at hj2
        simp at hj2
        obtain ⟨i', hi', e'⟩ := itL_has F j (by omega) hj2.1
        rcases Nat.lt_trichotomy i' i with h | rfl | h
        · have := h5 i' (by omega) h; omega
        · omega
        · have := itL_rise F 128 i i' h hi'; omega
  · rw [h1]
    refine .inr ⟨rfl, rfl, fun j hj => ?_⟩
    cases hj2 : geF F n j
    · rfl
    · exfalso
      unfold geF lowF at hj2
      simp at hj2
      obtain ⟨i', hi', e'⟩ := itL_has F j hj hj2.1
      have := h2 i' (by omega) hi'
      omega
theorem hi_dn (F : Nat → Bool) (n : Int) : IsHi (leF F n) (dnA (itL F 128) n (itL F 128).length).1 (dnA (itL F 128) n (itL F 128).length).2 := by
  rcases dn_spec (itL F 128) n (itL F 128).length with ⟨i, h2, h3, h4, h5⟩ | ⟨h1, h2⟩
  · rw [h3]
    obtain ⟨m, hm, hF, e⟩ := itL_at F i h2
    refine .inl ⟨rfl, m, e, hm, ?_, fun j hj hj128 => ?_⟩
    · unfold leF
      rw [hF, decide_eq_true (by omega)]; rfl
    · cases hj2 : leF F n j
      · rfl
      · exfalso
        unfold leF at hj2
        simp at hj2
        obtain ⟨i', hi', e'⟩ := itL_has F j (by omega) hj2.1
        rcases Nat.lt_trichotomy i i' with h | rfl | h
        · have := h5 i' h hi'; omega
        · omega
        · have := itL_rise F 128 i' i h h2; omega
  · rw [h1]
    refine .inr ⟨rfl, rfl, fun j hj => ?_⟩
    cases hj2 : leF F n j
    · rfl
    · exfalso
      unfold leF at hj2
      simp at hj2
      obtain ⟨i', hi', e'⟩ := itL_has F j hj hj2.1
      have := h2 i' hi'
      omega
theorem full_set : setV (fun _ => true) = .agg #[.int .u64 18446744073709551615, .int .u64 18446744073709551615] := by
  have h := setV_of (F := fun _ => true) (x := 18446744073709551615) (y := 18446744073709551615) (by omega) (by omega)
    (fun j hj => by rw [show (18446744073709551615 : Nat) = 2 ^ 64 - 1 by decide, Nat.testBit_two_pow_sub_one]; simp [hj]) (fun j hj => by rw [show (18446744073709551615 : Nat) = 2 ^ 64 - 1 by decide, Nat.testBit_two_pow_sub_one]; simp [hj])
  exact h.symm
end Go.Proofs.YtbjcigkakeffmaaDoor
