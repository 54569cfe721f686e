/- A slice of structs with structs inside, all of numbers, as an argument. -/
import Derived.Test.YtobeppajomhfjaaRows
import Derived.Test.YtobeppajomhfjaaRowKit
import Derived.Test.YtobeppajomhfjaaRowS
import Derived.Test.YtobeppajomhfjaaRowN
import Derived.WalkKit
import Derived.ProofKit
import Derived.OpenShut
import Derived.Deep.Slices
import Derived.Deep.Fields
import Derived.ChangeSame
import Derived.ChangeArms
import Derived.Lib.SmallJoins
namespace Go.Proofs.Ytobeppajomhfjaa
open Go.ChangeShapes Go.WideShapes Go.ChangeAt Go.RowKit Go.Joins Go.Deep
set_option linter.unusedVariables false
/-- what is told of such a type is told of m numbers -/
def IntCells (P : Program) (e : TypeId) (m : Nat) : Prop := ∀ (H : Type) (enc : TypeId × Value → H) (w : World) (n : Nat) (l : List Value) (x : DataW H × List MemPlace), DataW.trod enc P w 0 (fun _ => true) true n e l = some x → l.length = m → ∀ j, j < m → ∃ z : Int, l[j]? = some (.int .i64 z) ∧ (Lit.int .i64 z).wf = true
section
variable {P : Program}
theorem intCells_int {e : TypeId} (h : P.underlying e = some (.int .i64)) : IntCells P e 1 := fun H enc w n l x hx hl j hj => by
  match l, hl with
  | [v], _ =>
    obtain ⟨a, rfl, hw⟩ := trod_i_any h hx
    obtain rfl : j = 0 := by omega
    exact ⟨a, rfl, hw⟩
/-- a struct whose fields are such, one behind another -/
theorem intCells_struct {e : TypeId} {fs : Array Field} {m : Nat} (hs : P.underlying e = some (.struct fs)) (h : ∀ j, j < m → ∃ (i o c : Nat) (u : TypeId), (fs[i]?).map (fun f => (f.offset, f.type)) = some (o, u) ∧ P.cellsOf u = c ∧ IntCells P u c ∧ o ≤ j ∧ j < o + c ∧ o + c ≤ m) : IntCells P e m := fun H enc w n l x hx hl j hj => by
  obtain ⟨i, o, c, u, h1, h2, h3, h4, h5, h6⟩ := h j hj
  obtain ⟨k, y, hy⟩ := trod_field hs hx i o c h1 h2
  obtain ⟨z, hz, hw⟩ := h3 H enc w k _ y hy (by rw [List.length_take, List.length_drop]; omega) (j - o) (by omega)
  refine ⟨z, ?_, hw⟩
  rw [List.getElem?_take_of_lt (by omega), List.getElem?_drop, show o + (j - o) = j by omega] at hz
  exact hz
variable {H : Type} {enc : TypeId × Value → H}
theorem trod_rdQ {w : World} {t e : TypeId} {m n : Nat} {v : Value} {x : DataW H × List MemPlace} (ht : P.underlying t = some (.slice e)) (hC : P.cellsOf e = m) (h0 : 0 < m) (hI : IntCells P e m)
    (h : DataW.trod enc P w 0 (fun _ => true) true n t [v] = some x) : ∃ A c k z, v = .slice A k c ∧ k ≤ c ∧ c ≤ maxLen ∧ RdZ w m A k z ∧ (A = none → c = 0) := by
  rcases open_slice ht h with ⟨h1, _⟩ | ⟨a, len, cap, q, k, D, Pl, hcs, hb, hl, hm, hmm, hx, hi⟩
  · refine ⟨none, 0, 0, fun _ _ => 0, by simpa using h1, by simp, by simp [maxLen], fun i hi => absurd hi (by omega), fun _ => rfl⟩
  · simp only [if_true] at hmm
    refine ⟨some a, cap, len, fun i j => intOf ((w.cell? (a.add (i * m + j))).getD undef), by simpa using hcs, hl, hm, fun i hil => ?_, fun e => by cases e⟩
    obtain ⟨cs', hc, ht'⟩ := hi i (by omega)
    rw [hC] at hc
    obtain ⟨_, hcl, hat⟩ := World.cells?_some hc
    have key : ∀ j, j < m → ∃ z : Int, w.cell? (a.add (i * m + j)) = some (.int .i64 z) ∧ (Lit.int .i64 z).wf = true := by
      intro j hj
      obtain ⟨z, hz, hw⟩ := hI H enc w _ cs' _ ht' hcl j hj
      refine ⟨z, ?_, hw⟩
      rw [← Go.Deep.add_add, hat j hj]
      exact hz
    refine ⟨a, rfl, ?_, fun j hj => ?_⟩
    · obtain ⟨z, hz, _⟩ := key 0 h0
      have := lt_of_cell hz
      rwa [block_add] at this
    · obtain ⟨z, hz, hw⟩ := key j hj
      refine ⟨?_, ?_⟩
      · show _ = some (Value.int .i64 (intOf ((w.cell? (a.add (i * m + j))).getD undef)))
        rw [hz]; rfl
      · show (Lit.int .i64 (intOf ((w.cell? (a.add (i * m + j))).getD undef))).wf = true
        rw [hz]; exact hw
theorem open_rdQ {w : World} {t e : TypeId} {m : Nat} {v : Value} {d : DataW H} {ps : List MemPlace} (ht : P.underlying t = some (.slice e)) (hC : P.cellsOf e = m) (h0 : 0 < m) (hI : IntCells P e m)
    (h1 : v.cells.toList = [v]) (h : DataW.Trod enc P w 0 (fun _ => true) true t v d ps) : ∃ A c k z, v = .slice A k c ∧ k ≤ c ∧ c ≤ maxLen ∧ RdZ w m A k z ∧ (A = none → c = 0) := by
  obtain ⟨n, h⟩ := h
  rw [h1] at h
  exact trod_rdQ ht hC h0 hI h
end
end Go.Proofs.Ytobeppajomhfjaa
