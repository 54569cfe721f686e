/- span.Merge at any spans: its parts: a row in a block of the call's own, slices.Clone, slices.IndexFunc, slices.DeleteFunc. -/
import Derived.Test.YtiinlidilkdfbaaSpanG
import Derived.Shelf.SlSortCmp.NoneTotal
namespace Go.Proofs.Ytiinlidilkdfbaa
open Go.RowKit
set_option linter.unusedVariables false
set_option linter.unusedSimpArgs false
/-- a row of spans that lies in a block, and may be written -/
def OwS (w : World) (g : Nat) (L : List (Int × Int)) : Prop := g < w.heap.size ∧ ∀ i j, i < L.length → j < 2 → w.cell? ⟨g, i * 2 + j, none⟩ = some (.int .i64 (zS L i j)) ∧ w.frozen? ⟨g, i * 2 + j, none⟩ = false
theorem OwS.drew {w : World} {g : Nat} {L : List (Int × Int)} (h : OwS w g L) : OwS w.drew g L := h
theorem OwS.on {w w' : World} {g : Nat} {L : List (Int × Int)} (h : OwS w g L) (hb : Below w.heap.size w w') : OwS w' g L := by
  refine ⟨Nat.lt_of_lt_of_le h.1 hb.size, fun i j hi hj => ?_⟩
  have hbl := hb.block g h.1
  have hf : ∀ o, w'.frozen? ⟨g, o, none⟩ = w.frozen? ⟨g, o, none⟩ := fun o => by simp only [World.frozen?, hbl]
  exact ⟨cell_on hb (h.2 i j hi hj).1, by rw [hf]; exact (h.2 i j hi hj).2⟩
theorem zS_set (L : List (Int × Int)) (i : Nat) (p q : Int) (hi : i < L.length) (k j : Nat) : zS (L.set i (p, q)) k j = if k = i then (if j = 0 then p else q) else zS L k j := by
  unfold zS
  by_cases h : k = i
  · subst h
    rw [if_pos rfl, List.getD_eq_getElem?_getD, List.getElem?_set_self (by exact hi)]
    rfl
  · rw [if_neg h, List.getD_eq_getElem?_getD, List.getElem?_set_ne (fun e => h e.symm), ← List.getD_eq_getElem?_getD]
theorem zS_take (L : List (Int × Int)) (n k j : Nat) (hk : k < n) : zS (L.take n) k j = zS L k j := by
  unfold zS
  rw [List.getD_eq_getElem?_getD, List.getElem?_take_of_lt hk, ← List.getD_eq_getElem?_getD]
/-- one span of the row is another one -/
theorem OwS.set {w : World} {g : Nat} {L : List (Int × Int)} (h : OwS w g L) (i : Nat) (hi : i < L.length) (p q : Int) : OwS (w.setCells g (i * 2) [.int .i64 p, .int .i64 q]) g (L.set i (p, q)) := by
  refine ⟨by rw [Sort.size_setCells]; exact h.1, fun k j hk hj => ?_⟩
  rw [List.length_set] at hk
  rw [World.frozen?_setCells, zS_set L i p q hi]
  refine ⟨?_, (h.2 k j hk hj).2⟩
  by_cases e : k = i
  · subst e
    rw [if_pos rfl]
    have hin := World.cell?_setCells_in g [.int .i64 p, .int .i64 q] (k * 2) w (fun j hj => by
      rw [(h.2 k j hk (by simpa using hj)).1]; rfl) j (by simpa using hj)
    rw [hin]
    rcases j with _ | _ | j
    · rfl
    · rfl
    · omega
  · rw [if_neg e, World.cell?_setCells_out g _ _ w _ (fun _ _ => by
      show k * 2 + j < i * 2 ∨ i * 2 + [Value.int .i64 p, Value.int .i64 q].length ≤ k * 2 + j
      simp; omega)]
    exact (h.2 k j hk hj).1
/-- what lies behind a place goes -/
theorem OwS.cut {w : World} {g : Nat} {L : List (Int × Int)} (h : OwS w g L) (i : Nat) (vs : List Value) : OwS (w.setCells g (i * 2) vs) g (L.take i) := by
  refine ⟨by rw [Sort.size_setCells]; exact h.1, fun k j hk hj => ?_⟩
  rw [List.length_take] at hk
  rw [World.frozen?_setCells, zS_take L i k j (by omega)]
  refine ⟨?_, (h.2 k j (by omega) hj).2⟩
  rw [World.cell?_setCells_out g _ _ w _ (fun _ _ => Or.inl (by show k * 2 + j < i * 2; omega))]
  exact (h.2 k j (by omega) hj).1
theorem zeros2 (k : Nat) : (Builtin.zeroCells (Value.cells (.agg #[.int .i64 0, .int .i64 0])) k).toList = List.replicate (k * 2) (.int .i64 0) := by
  have e : Value.cells (.agg #[.int .i64 0, .int .i64 0]) = #[.int .i64 0, .int .i64 0] := by kernel_rfl
  rw [e]
  simp only [Builtin.zeroCells]
  apply List.ext_getElem
  · simp
  · intro i h1 h2
    simp
    rcases Nat.mod_two_eq_zero_or_one i with e | e <;> rw [e] <;> rfl
theorem clear_any (w : World) (g i k c : Nat) (ty : TypeId) (hc : ∀ j, j < k * 2 → (w.cell? ⟨g, i * 2 + j, none⟩).isSome = true) (hf : ∀ j, j < k * 2 → w.frozen? ⟨g, i * 2 + j, none⟩ = false) :
    (Builtin.clear_ #[22] ty #[.slice (some ⟨g, i * 2, none⟩) k c]).run Try.prog w = .ok (.tuple #[]) (w.setCells g (i * 2) (List.replicate (k * 2) (.int .i64 0))) := by
  have hst := run_storeCells_cells (P := Try.prog) g (i * 2) (List.replicate (k * 2) (.int .i64 0)) 0 w (by simpa using hc) (by simpa using hf) (by intro v hv; rw [List.eq_of_mem_replicate hv]; rfl)
  simp only [Nat.add_zero] at hst
  rcases k with _ | k
  · simp [Builtin.clear_, run_underlying Try.underlying22]; rfl
  · simp [Builtin.clear_, run_underlying Try.underlying22, zero_span, zeros2, hst]
end Go.Proofs.Ytiinlidilkdfbaa
