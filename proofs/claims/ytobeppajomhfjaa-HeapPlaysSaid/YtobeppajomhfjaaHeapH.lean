/- Rows of entries in order: mathematics. -/
import Derived.Test.YtobeppajomhfjaaHeapG
namespace Go.Proofs.Ytobeppajomhfjaa
open Go.RowKit
set_option linter.unusedVariables false
def OrdP (M : List Ent) : Prop := M.Pairwise fun a b => ¬ ltE b a
theorem ordP_of {M : List Ent} (h : OrdE M) : OrdP M := List.pairwise_iff_getElem.2 fun i j hi hj hij => h i j hij hj
theorem ltE_trans {x y z : Ent} (h1 : ¬ ltE y x) (h2 : ¬ ltE z y) : ¬ ltE z x := by unfold ltE at *; omega
theorem ltE_anti {x y : Ent} (h1 : ¬ ltE y x) (h2 : ¬ ltE x y) : x = y := by
  obtain ⟨a, b, c⟩ := x
  obtain ⟨d, e, f⟩ := y
  unfold ltE at *
  simp only at h1 h2
  have e1 : a = d := by omega
  have e2 : b = e := by omega
  have e3 : c = f := by omega
  rw [e1, e2, e3]
theorem eE_get {L : List Ent} {i : Nat} (hi : i < L.length) : eE L i = L[i] := (zE_at hi).symm
theorem ordP_put {L : List Ent} {x : Ent} {i : Nat} (h : OrdP L) (hi : i ≤ L.length) (h1 : ∀ j, i ≤ j → j < L.length → ltb x (eE L j) = true) (h2 : 0 < i → ltb x (eE L (i - 1)) = false) : OrdP (L.take i ++ x :: L.drop i) := by
  have hp := List.pairwise_iff_getElem.1 h
  have hx : ∀ y, y ∈ L.drop i → ¬ ltE y x := by
    intro y hy
    obtain ⟨j, hj, e⟩ := List.getElem_of_mem hy
    rw [List.getElem_drop] at e
    rw [List.length_drop] at hj
    have := h1 (i + j) (by omega) (by omega)
    rw [eE_get (by omega), ltb_iff, e] at this
    unfold ltE at *; omega
  have ht : ∀ y, y ∈ L.take i → ¬ ltE x y := by
    intro y hy
    obtain ⟨j, hj, e⟩ := List.getElem_of_mem hy
    rw [List.getElem_take] at e
    rw [List.length_take] at hj
    have := h2 (by omega)
    have hn : ¬ ltE x L[i - 1] := by rw [← ltb_iff, ← eE_get (by omega), this]; simp
    by_cases ej : j = i - 1
    · subst ej; rw [← e]; exact hn
    · have := hp j (i - 1) (by omega) (by omega) (by omega)
      rw [e] at this
      exact ltE_trans this hn
  unfold OrdP
  rw [List.pairwise_append, List.pairwise_cons]
  refine ⟨List.Pairwise.sublist (List.take_sublist i L) h, ⟨fun y hy => hx y hy, List.Pairwise.sublist (List.drop_sublist i L) h⟩, fun a ha b hb => ?_⟩
  rcases List.mem_cons.1 hb with rfl | hb
  · exact ht a ha
  · exact ltE_trans (ht a ha) (hx b hb)
theorem put_perm (L : List Ent) (x : Ent) (i : Nat) : (L.take i ++ x :: L.drop i).Perm (x :: L) := by
  have := @List.perm_middle Ent x (L.take i) (L.drop i)
  rwa [List.take_append_drop] at this
/-- rows in order that hold the same are the same -/
theorem ordP_unique : ∀ (L M : List Ent), OrdP L → OrdP M → L.Perm M → L = M
  | [], M, _, _, h => (List.nil_perm.1 h).symm
  | x :: r, [], _, _, h => absurd h (by simp)
  | x :: r, y :: s, h1, h2, h => by
    have e : x = y := by
      obtain ⟨a1, a2⟩ := List.pairwise_cons.1 h1
      obtain ⟨b1, b2⟩ := List.pairwise_cons.1 h2
      rcases List.mem_cons.1 (h.mem_iff.1 (List.mem_cons_self ..)) with e | hm
      · exact e
      · rcases List.mem_cons.1 (h.mem_iff.2 (List.mem_cons_self ..)) with e | hm2
        · exact e.symm
        · exact ltE_anti (a1 y hm2) (b1 x hm)
    subst e
    rw [ordP_unique r s (List.pairwise_cons.1 h1).2 (List.pairwise_cons.1 h2).2 ((List.perm_cons x).1 h)]
end Go.Proofs.Ytobeppajomhfjaa
