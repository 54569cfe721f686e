/- A stretch of cells of a row that came in. -/
import Derived.Test.YtmnildjcnpfddaaDoorRows
import Derived.Test.YtmnildjcnpfddaaDoorRowKit
import Derived.Test.YtmnildjcnpfddaaDoorBlocks
import Derived.Deep.AppendLies
namespace Go.Proofs.YtmnildjcnpfddaaDoor
open Go.RowKit
set_option linter.unusedSimpArgs false
def At (w : World) (b o : Nat) (cs : Array Value) : Prop := ∀ i v, cs[i]? = some v → w.cell? ⟨b, o + i, none⟩ = some v
theorem At.next {w w' : World} {b o : Nat} {cs : Array Value} (h : At w b o cs) (hb : Below w.heap.size w w') : At w' b o cs := fun i v hv =>
  (hb.cell (p := ⟨b, o + i, none⟩) (lt_of_cell (h i v hv))).trans (h i v hv)
theorem At.drew {w : World} {b o : Nat} {cs : Array Value} (h : At w b o cs) : At w.drew b o cs := h
theorem at6 {w : World} {b o : Nat} {v0 v1 v2 v3 v4 v5 : Value} (h0 : w.cell? ⟨b, o, none⟩ = some v0) (h1 : w.cell? ⟨b, o + 1, none⟩ = some v1) (h2 : w.cell? ⟨b, o + 2, none⟩ = some v2) (h3 : w.cell? ⟨b, o + 3, none⟩ = some v3) (h4 : w.cell? ⟨b, o + 4, none⟩ = some v4) (h5 : w.cell? ⟨b, o + 5, none⟩ = some v5) : At w b o #[v0, v1, v2, v3, v4, v5] := fun i v hv => by
  rcases i with _ | _ | _ | _ | _ | _ | i <;> simp at hv <;> subst hv <;> assumption
theorem at2 {w : World} {b o : Nat} {v0 v1 : Value} (h0 : w.cell? ⟨b, o, none⟩ = some v0) (h1 : w.cell? ⟨b, o + 1, none⟩ = some v1) : At w b o #[v0, v1] := fun i v hv => by
  rcases i with _ | _ | i <;> simp at hv <;> subst hv <;> assumption
theorem at1 {w : World} {b o : Nat} {v0 : Value} (h0 : w.cell? ⟨b, o, none⟩ = some v0) : At w b o #[v0] := fun i v hv => by
  rcases i with _ | i <;> simp at hv <;> subst hv <;> assumption
theorem At.id {w : World} {b o : Nat} {cs : Array Value} (h : At w b o cs) : At w b o cs := h
theorem At.far {w : World} {b o : Nat} {cs : Array Value} (h : At w b o cs) {p : Addr} (hp : b ≠ p.block) (u : Value) : At (w.setCell p u) b o cs := fun i v hv => by
  have hh := h i v hv
  unfold World.cell? at hh ⊢
  have e : (w.setCell p u).heap[(⟨b, o + i, none⟩ : Addr).block]? = w.heap[(⟨b, o + i, none⟩ : Addr).block]? := Below.heap_setCell w p u b hp
  rw [e]; exact hh
theorem at4 {w : World} {b o : Nat} {v0 v1 v2 v3 : Value} (h0 : w.cell? ⟨b, o, none⟩ = some v0) (h1 : w.cell? ⟨b, o + 1, none⟩ = some v1) (h2 : w.cell? ⟨b, o + 2, none⟩ = some v2) (h3 : w.cell? ⟨b, o + 3, none⟩ = some v3) : At w b o #[v0, v1, v2, v3] := fun i v hv => by
  rcases i with _ | _ | _ | _ | i <;> simp at hv <;> subst hv <;> assumption
theorem At.alloc {w : World} {b o : Nat} {cs : Array Value} (h : At w b o cs) (x : Obj) : At (w.alloc x) b o cs := h.next ((Below.refl _ _).alloc (Nat.le_refl _) x)
theorem At.grown {w w' : World} {b o : Nat} {cs : Array Value} {row : Option Nat} (h : At w b o cs) (hg : w.grownBy w' row) (hlt : b < w.heap.size) (hne : row ≠ some b) : At w' b o cs := fun i v hv => by
  rw [hg.cell_far _ hlt (Ne.symm hne)]
  exact h i v hv
end Go.Proofs.YtmnildjcnpfddaaDoor
