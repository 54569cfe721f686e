/- Arguments that are structs with structs inside: a field's reading, by its offset. -/
import Derived.Test.YtobeppajomhfjaaRows
import Derived.Test.YtobeppajomhfjaaRowKit
import Derived.Test.YtobeppajomhfjaaRowS
import Derived.WalkKit
import Derived.ProofKit
import Derived.OpenShut
import Derived.Deep.Slices
import Derived.Deep.Fields
import Derived.ChangeSame
import Derived.ChangeArms
import Derived.Lib.SmallJoins
namespace Go.Proofs.Ytobeppajomhfjaa
open Go.ChangeShapes Go.WideShapes Go.ChangeAt Go.RowKit Go.Joins Go.Deep
set_option linter.unusedVariables false
section
variable {P : Program} {H : Type} {enc : TypeId × Value → H}
theorem open_struct {w : World} {base : Nat} {spare : Nat → Bool} {held : Bool} {r : Reach} {b0 : Nat} {t : TypeId} {fs : Array Field} {v : Value} {d : DataW H} {p : List MemPlace} (hs : P.underlying t = some (.struct fs))
    (hv : Value.okWide P w r b0 t v) (h : DataW.Trod enc P w base spare held t v d p) : ∃ (l : List Value) (n : Nat) (x : DataW H × List MemPlace), v = .agg l.toArray ∧ l.length = P.cellsOf t ∧ DataW.trod enc P w base spare held n t l = some x := by
  obtain ⟨cs, rfl, hsz⟩ := okWide_struct hs hv
  obtain ⟨l⟩ := cs
  obtain ⟨fuel, hf⟩ := h
  exact ⟨l, fuel, _, rfl, by simpa using hsz, hf⟩
theorem trod_field {w : World} {base : Nat} {spare : Nat → Bool} {held : Bool} {t u : TypeId} {fs : Array Field} {n : Nat} {l : List Value} {x : DataW H × List MemPlace} (hs : P.underlying t = some (.struct fs)) (h : DataW.trod enc P w base spare held n t l = some x)
    (i o c : Nat) (hf : (fs[i]?).map (fun f => (f.offset, f.type)) = some (o, u)) (hc : P.cellsOf u = c) : ∃ (m : Nat) (y : DataW H × List MemPlace), DataW.trod enc P w base spare held m u ((l.drop o).take c) = some y := by
  obtain ⟨xs, m, _, _, _, hlen, hg⟩ := DataW.trod_struct hs h
  cases hfi : fs[i]? with
  | none => rw [hfi] at hf; cases hf
  | some f =>
    rw [hfi] at hf
    simp only [Option.map_some, Option.some.injEq, Prod.mk.injEq] at hf
    obtain ⟨rfl, rfl⟩ := hf
    have h1 := hg i f hfi
    rw [hc] at h1
    have hi : i < fs.size := (Array.getElem?_eq_some_iff.1 hfi).1
    exact ⟨m, _, h1.trans (List.getElem?_eq_getElem (by omega))⟩
end
end Go.Proofs.Ytobeppajomhfjaa
