/- slices.Equal at rows of numbers: two rows with the same numbers are equal. -/
import Derived.Test.YtmnildjcnpfddaaDoorRows
import Derived.Test.YtmnildjcnpfddaaDoorRowKit
import Derived.WalkKit
import Derived.Lib.Hide
import Derived.WalkSpells
import Derived.WalkLawsBesides
import Derived.Deep.QuietTactic
import Derived.BigQuiet
namespace Go.Proofs.YtmnildjcnpfddaaDoor
open Go.RowKit
set_option linter.unusedSimpArgs false
set_option linter.unusedVariables false
theorem spot_none {w : World} {a : Addr} {v : Value} (h : w.cell? a = some v) : a.spot = none := by
  cases hs : a.spot with
  | none => rfl
  | some x =>
    unfold World.cell? at h
    split at h
    · simp [hs] at h
    · cases h
/-- a row of numbers that isn't empty: where it begins, and its cells -/
theorem rdI_row {w : World} {k : IntKind} {A : Option Addr} {zs : List Int} (h : RdI w k A zs) (hn : 0 < zs.length) : ∃ b off, A = some ⟨b, off, none⟩ ∧ b < w.heap.size ∧ ∀ i, i < zs.length → w.cell? ⟨b, off + i, none⟩ = some (.int k (zat zs i)) := by
  obtain ⟨a, e, hlt, hc, _⟩ := h 0 hn
  have hs : a.spot = none := spot_none (by simpa [Addr.add] using hc)
  obtain ⟨b, off, sp⟩ := a
  simp only at hs
  subst hs
  refine ⟨b, off, e, hlt, fun i hi => ?_⟩
  obtain ⟨a', e', _, hc', _⟩ := h i hi
  rw [e] at e'
  cases e'
  by_cases h0 : i = 0
  · subst h0; simpa [Addr.add] using hc'
  · simpa [Addr.add, h0] using hc'
theorem rdI_mk {w : World} {k : IntKind} {b off : Nat} {zs : List Int} (h : ∀ i, i < zs.length → w.cell? ⟨b, off + i, none⟩ = some (.int k (zat zs i)) ∧ (Lit.int k (zat zs i)).wf = true) : RdI w k (some ⟨b, off, none⟩) zs := fun i hi => by
  obtain ⟨h1, h2⟩ := h i hi
  refine ⟨⟨b, off, none⟩, rfl, lt_of_cell (a := ⟨b, off + i, none⟩) h1, ?_, h2⟩
  by_cases h0 : i = 0
  · subst h0; simpa [Addr.add] using h1
  · simpa [Addr.add, h0] using h1
theorem rdI_none {w : World} {k : IntKind} {A : Option Addr} {zs : List Int} (h : zs.length = 0) : RdI w k A zs := fun i hi => absurd hi (by omega)
theorem rdI_of_len {w : World} {k : IntKind} {A : Option Addr} {zs : List Int} (h : RdI w k A zs) : zs.length = 0 ∨ ∃ b off, A = some ⟨b, off, none⟩ := by
  by_cases h0 : zs.length = 0
  · exact .inl h0
  · obtain ⟨b, off, e, _⟩ := rdI_row h (by omega); exact .inr ⟨b, off, e⟩
end Go.Proofs.YtmnildjcnpfddaaDoor
