/- A slice of numbers as a law's argument: without an address it has no room. -/
import Derived.Test.YtnjdeikikdieoaaRows
import Derived.WalkKit
import Derived.ProofKit
import Derived.OpenShut
import Derived.Carry
import Derived.OpenVars
import Derived.Below
import Derived.ChangeSame
import Derived.ChangeSlices
import Derived.Lib.SmallJoins
import Derived.Deep.Draws
import Derived.Test.YtnjdeikikdieoaaRowKit
namespace Go.Proofs.Ytnjdeikikdieoaa
open Go.RowKit
open Go.ChangeShapes Go.WideShapes Go.ChangeAt Go.RowKit Go.Joins
section
variable {P : Program}
variable {H : Type} {enc : TypeId × Value → H}
theorem trod_rdI2 {w : World} {t e : TypeId} {k : IntKind} {n : Nat} {v : Value} {x : DataW H × List MemPlace} (ht : P.underlying t = some (.slice e)) (he : P.underlying e = some (.int k)) (hc : P.cellsOf e = 1)
    (h : DataW.trod enc P w 0 (fun _ => true) true n t [v] = some x) : ∃ A c zs, v = .slice A zs.length c ∧ zs.length ≤ c ∧ c ≤ maxLen ∧ RdI w k A zs ∧ (A = none → c = 0) := by
  rcases open_ints ht he hc h with ⟨h1, _⟩ | ⟨a, len, cap, zs, h1, _, hl, hm, hz, _, hcell, hwf⟩
  · refine ⟨none, 0, [], by simpa using h1, by simp, by simp [maxLen], fun i hi => by simp at hi, fun _ => rfl⟩
  · simp only [if_true] at hz
    have el : (zs.take len).length = len := by rw [List.length_take]; omega
    refine ⟨some a, cap, zs.take len, by rw [el]; simpa using h1, by omega, hm, fun i hi => ?_, fun e => by cases e⟩
    rw [el] at hi
    have hi' : i < zs.length := by omega
    have eg : (zs.take len).getD i 0 = zs.getD i 0 := by
      simp [List.getD_eq_getElem?_getD, hi]
    have hh := hcell i hi'
    refine ⟨a, rfl, by have := lt_of_cell hh; rwa [block_add] at this, by unfold zat; rw [eg]; exact hh, ?_⟩
    unfold zat
    rw [eg]
    refine hwf _ ?_
    rw [List.getD_eq_getElem?_getD, List.getElem?_eq_getElem hi']
    simp
theorem open_rdI2 {w : World} {t e : TypeId} {k : IntKind} {v : Value} {d : DataW H} {ps : List MemPlace} (ht : P.underlying t = some (.slice e)) (he : P.underlying e = some (.int k)) (hc : P.cellsOf e = 1)
    (hone : v.cells.toList = [v]) (h : DataW.Trod enc P w 0 (fun _ => true) true t v d ps) : ∃ A c zs, v = .slice A zs.length c ∧ zs.length ≤ c ∧ c ≤ maxLen ∧ RdI w k A zs ∧ (A = none → c = 0) := by
  obtain ⟨n, h⟩ := h
  rw [hone] at h
  exact trod_rdI2 ht he hc h
end
end Go.Proofs.Ytnjdeikikdieoaa
