/- Heaps of entries: mathematics. -/
import Derived.Test.YtobeppajomhfjaaHeapH
namespace Go.Proofs.Ytobeppajomhfjaa
open Go.RowKit
set_option linter.unusedVariables false
theorem ltE_asym {x y : Ent} (h : ltE x y) : ¬ ltE y x := by unfold ltE at *; omega
theorem ltE_tr {x y z : Ent} (h1 : ltE x y) (h2 : ltE y z) : ltE x z := by unfold ltE at *; omega
theorem ltE_irr (x : Ent) : ¬ ltE x x := by unfold ltE; omega
theorem eE_eq (L : List Ent) (i : Nat) : eE L i = L.getD i (0, 0, 0) := by unfold eE zE; rfl
theorem eE_set {L : List Ent} {i k : Nat} {x : Ent} (hi : i < L.length) : eE (L.set i x) k = if k = i then x else eE L k := by
  rw [eE_eq, eE_eq, List.getD_eq_getElem?_getD, List.getD_eq_getElem?_getD, List.getElem?_set]
  by_cases h : i = k
  · subst h; rw [if_pos rfl, if_pos rfl, if_pos hi]; rfl
  · rw [if_neg h, if_neg (Ne.symm h)]
/-- two entries for each other -/
def swE (L : List Ent) (i j : Nat) : List Ent := (L.set i (eE L j)).set j (eE L i)
theorem swE_len (L : List Ent) (i j : Nat) : (swE L i j).length = L.length := by simp [swE]
theorem eE_sw {L : List Ent} {i j k : Nat} (hi : i < L.length) (hj : j < L.length) : eE (swE L i j) k = if k = j then eE L i else if k = i then eE L j else eE L k := by
  unfold swE
  rw [eE_set (by simpa using hj), eE_set hi]
theorem swE_perm {L : List Ent} {i j : Nat} (hi : i < L.length) (hj : j < L.length) : (swE L i j).Perm L := by
  have h := Array.swap_perm (xs := L.toArray) (i := i) (j := j) (by simpa using hi) (by simpa using hj)
  have h2 := Array.perm_iff_toList_perm.1 h
  have e : (L.toArray.swap i j (by simpa using hi) (by simpa using hj)).toList = swE L i j := by
    rw [Array.swap_def]
    unfold swE
    rw [eE_get hi, eE_get hj]
    simp
  rw [e] at h2
  exact h2
def HeapO (L : List Ent) : Prop := ∀ i, 0 < i → i < L.length → ¬ ltE (eE L i) (eE L ((i - 1) / 2))
def RiseI (L : List Ent) (i : Nat) : Prop := (∀ k, 0 < k → k < L.length → k ≠ i → ¬ ltE (eE L k) (eE L ((k - 1) / 2))) ∧ (∀ k, 0 < k → k < L.length → (k - 1) / 2 = i → 0 < i → ¬ ltE (eE L k) (eE L ((i - 1) / 2)))
def SinkI (L : List Ent) (i : Nat) : Prop := (∀ k, 0 < k → k < L.length → (k - 1) / 2 ≠ i → ¬ ltE (eE L k) (eE L ((k - 1) / 2))) ∧ (∀ k, 0 < k → k < L.length → (k - 1) / 2 = i → 0 < i → ¬ ltE (eE L k) (eE L ((i - 1) / 2)))
theorem rise_step {L : List Ent} {i p : Nat} (h : RiseI L i) (h0 : 0 < i) (hi : i < L.length) (hp : (i - 1) / 2 = p) (hl : ltE (eE L i) (eE L p)) : RiseI (swE L i p) p := by
  obtain ⟨h1, h2⟩ := h
  have hpl : p < L.length := by omega
  have hne : p ≠ i := by omega
  refine ⟨fun k k0 kl kp => ?_, fun k k0 kl kp p0 => ?_⟩
  · rw [swE_len] at kl
    rw [eE_sw hi hpl, eE_sw hi hpl, if_neg kp]
    by_cases e : k = i
    · subst e
      rw [if_pos rfl, if_pos hp]
      exact ltE_asym hl
    · rw [if_neg e]
      by_cases e1 : (k - 1) / 2 = p
      · rw [if_pos e1]
        have := h1 k k0 kl e
        rw [e1] at this
        exact fun hh => this (ltE_tr hh hl)
      · rw [if_neg e1]
        by_cases e2 : (k - 1) / 2 = i
        · rw [if_pos e2]
          have := h2 k k0 kl e2 h0
          rwa [hp] at this
        · rw [if_neg e2]; exact h1 k k0 kl e
  · rw [swE_len] at kl
    have q1 : (p - 1) / 2 ≠ p := by omega
    have q2 : (p - 1) / 2 ≠ i := by omega
    have hpp := h1 p p0 hpl hne
    rw [eE_sw hi hpl, eE_sw hi hpl, if_neg (show k ≠ p by omega), if_neg q1, if_neg q2]
    by_cases e : k = i
    · rw [if_pos e]; exact hpp
    · rw [if_neg e]
      have := h1 k k0 kl e
      rw [kp] at this
      exact ltE_trans hpp this
theorem rise_done {L : List Ent} {i : Nat} (h : RiseI L i) (h0 : 0 < i → ¬ ltE (eE L i) (eE L ((i - 1) / 2))) : HeapO L := fun k k0 kl => by
  by_cases e : k = i
  · subst e; exact h0 k0
  · exact h.1 k k0 kl e
theorem rise_init {L : List Ent} {x : Ent} (h : HeapO L) : RiseI (L ++ [x]) L.length := by
  have hg : ∀ k, k < L.length → eE (L ++ [x]) k = eE L k := fun k hk => by
    rw [eE_eq, eE_eq, List.getD_eq_getElem?_getD, List.getD_eq_getElem?_getD, List.getElem?_append_left hk]
  refine ⟨fun k k0 kl kn => ?_, fun k k0 kl kp p0 => ?_⟩
  · simp at kl
    rw [hg k (by omega), hg _ (by omega)]
    exact h k k0 (by omega)
  · simp at kl; omega
theorem sink_step {L : List Ent} {i c : Nat} (h : SinkI L i) (hi : i < L.length) (c0 : 0 < c) (hc : c < L.length) (hp : (c - 1) / 2 = i)
    (hm : ∀ k, 0 < k → k < L.length → (k - 1) / 2 = i → ¬ ltE (eE L k) (eE L c)) (hl : ltE (eE L c) (eE L i)) : SinkI (swE L i c) c := by
  obtain ⟨h1, h2⟩ := h
  have hne : c ≠ i := by omega
  refine ⟨fun k k0 kl kp => ?_, fun k k0 kl kp p0 => ?_⟩
  · rw [swE_len] at kl
    rw [eE_sw hi hc, eE_sw hi hc, if_neg kp]
    by_cases e : k = c
    · subst e
      rw [if_pos rfl, if_pos hp]
      exact ltE_asym hl
    · rw [if_neg e]
      by_cases e1 : (k - 1) / 2 = i
      · rw [if_pos e1, if_neg (show k ≠ i by omega)]
        exact hm k k0 kl e1
      · rw [if_neg e1]
        by_cases e2 : k = i
        · subst e2
          rw [if_pos rfl]
          exact h2 c c0 hc hp k0
        · rw [if_neg e2]; exact h1 k k0 kl e1
  · rw [swE_len] at kl
    rw [eE_sw hi hc, eE_sw hi hc, if_neg (show k ≠ c by omega), if_neg (show k ≠ i by omega), hp, if_neg (Ne.symm hne), if_pos rfl]
    have := h1 k k0 kl (by omega)
    rwa [kp] at this
theorem sink_done {L : List Ent} {i : Nat} (h : SinkI L i) (hn : ∀ k, 0 < k → k < L.length → (k - 1) / 2 = i → ¬ ltE (eE L k) (eE L i)) : HeapO L := fun k k0 kl => by
  by_cases e : (k - 1) / 2 = i
  · rw [e]; exact hn k k0 kl e
  · exact h.1 k k0 kl e
/-- the last one laid where the first one was -/
def cutE (L : List Ent) : List Ent := (L.set 0 (eE L (L.length - 1))).take (L.length - 1)
theorem cutE_len (L : List Ent) : (cutE L).length = L.length - 1 := by simp [cutE]
theorem eE_cut {L : List Ent} {k : Nat} (hk : k < L.length - 1) : eE (cutE L) k = if k = 0 then eE L (L.length - 1) else eE L k := by
  unfold cutE
  rw [eE_eq, List.getD_eq_getElem?_getD, List.getElem?_take_of_lt hk, ← List.getD_eq_getElem?_getD, ← eE_eq, eE_set (by omega)]
theorem sink_init {L : List Ent} (h : HeapO L) : SinkI (cutE L) 0 := by
  refine ⟨fun k k0 kl kp => ?_, fun k k0 kl kp p0 => absurd p0 (Nat.lt_irrefl _)⟩
  rw [cutE_len] at kl
  rw [eE_cut kl, eE_cut (by omega), if_neg (by omega), if_neg kp]
  exact h k k0 (by omega)
theorem cutE_perm {L : List Ent} (h0 : 0 < L.length) : (eE L 0 :: cutE L).Perm L := by
  obtain ⟨x, r, rfl⟩ : ∃ x r, L = x :: r := by
    cases L with
    | nil => simp at h0
    | cons x r => exact ⟨x, r, rfl⟩
  have e0 : eE (x :: r) 0 = x := by rw [eE_eq]; rfl
  rw [e0]
  refine List.Perm.cons x ?_
  rcases List.eq_nil_or_concat r with rfl | ⟨s, y, rfl⟩
  · simp [cutE]
  · rw [List.concat_eq_append]
    have ey : eE (x :: (s ++ [y])) ((x :: (s ++ [y])).length - 1) = y := by
      rw [eE_eq, List.getD_eq_getElem?_getD]; simp
    unfold cutE
    rw [ey]
    simp only [List.set_cons_zero, List.length_cons, List.length_append, List.length_nil, Nat.add_sub_cancel, Nat.zero_add, List.take_succ_cons]
    rw [List.take_append_of_le_length (Nat.le_refl _), List.take_length]
    exact (List.perm_append_comm (l₁ := [y]) (l₂ := s)).trans (List.Perm.refl _)
theorem heap_top {L : List Ent} (h : HeapO L) : ∀ k, k < L.length → ¬ ltE (eE L k) (eE L 0) := by
  intro k
  induction k using Nat.strongRecOn with
  | ind k ih =>
    intro hk
    rcases Nat.eq_zero_or_pos k with rfl | k0
    · exact ltE_irr _
    · exact ltE_trans (ih ((k - 1) / 2) (by omega) (by omega)) (h k k0 hk)
/-- the first one of a heap is the first one of the same entries in order -/
theorem heap_head {L M : List Ent} (h : HeapO L) (ho : OrdP M) (hp : M.Perm L) (h0 : 0 < L.length) : ∃ s, M = eE L 0 :: s ∧ s.Perm (cutE L) ∧ OrdP s := by
  cases M with
  | nil => have := hp.length_eq; simp at this; omega
  | cons y s =>
    obtain ⟨o1, o2⟩ := List.pairwise_cons.1 ho
    have hy : ¬ ltE y (eE L 0) := by
      obtain ⟨k, hk, e⟩ := List.getElem_of_mem (hp.mem_iff.1 (List.mem_cons_self ..))
      rw [← e, ← eE_get hk]
      exact heap_top h k hk
    have hx : ¬ ltE (eE L 0) y := by
      have hm : eE L 0 ∈ y :: s := hp.mem_iff.2 (by rw [eE_get h0]; exact List.getElem_mem h0)
      rcases List.mem_cons.1 hm with e | hm
      · rw [e]; exact ltE_irr _
      · exact o1 _ hm
    obtain rfl := ltE_anti hx hy
    exact ⟨s, rfl, (List.perm_cons _).1 (hp.trans (cutE_perm h0).symm), o2⟩
theorem heap_ord {M : List Ent} (h : OrdP M) : HeapO M := fun i i0 hi => by
  have := List.pairwise_iff_getElem.1 h ((i - 1) / 2) i (by omega) hi (by omega)
  rwa [eE_get hi, eE_get (by omega)]
end Go.Proofs.Ytobeppajomhfjaa
