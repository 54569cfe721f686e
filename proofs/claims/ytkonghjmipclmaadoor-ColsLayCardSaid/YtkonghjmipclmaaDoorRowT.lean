/- A slice of strings as an argument, and rows of strings that the call made. -/
import Derived.Test.YtkonghjmipclmaaDoorRows
import Derived.Test.YtkonghjmipclmaaDoorRowKit
import Derived.WalkKit
import Derived.ProofKit
import Derived.OpenShut
import Derived.SliceStrings
import Derived.ChangeSame
import Derived.Lib.SmallJoins
import Derived.Laws.CopyOwn
import Derived.Laws.MakeOwn
import Derived.Laws.OwnMore
namespace Go.Proofs.YtkonghjmipclmaaDoor
open Go.ChangeShapes Go.WideShapes Go.ChangeAt Go.RowKit Go.Joins
set_option linter.unusedVariables false
/-- a slice of strings; nil too -/
def RdT (w : World) (A : Option Addr) (n : Nat) (t : Nat → ByteArray) : Prop :=
  ∀ i, i < n → ∃ a, A = some a ∧ a.block < w.heap.size ∧ w.cell? (a.add i) = some (.string (t i)) ∧ (t i).size ≤ maxLen
theorem RdT.kept {w w' : World} {A : Option Addr} {n : Nat} {t : Nat → ByteArray} (h : RdT w A n t) (hb : Below w.heap.size w w') : RdT w' A n t := fun i hi => by
  obtain ⟨a, e, hlt, hc, hs⟩ := h i hi
  exact ⟨a, e, Nat.lt_of_lt_of_le hlt hb.size, (hb.cell (by rw [block_add]; exact hlt)).trans hc, hs⟩
theorem spot_noneT {w : World} {a : Addr} {v : Value} (h : w.cell? a = some v) : a.spot = none := by
  obtain ⟨b, o, s⟩ := a
  cases s with
  | none => rfl
  | some s => unfold World.cell? at h; split at h <;> simp_all
theorem rdT_row {w : World} {A : Option Addr} {n : Nat} {t : Nat → ByteArray} (h : RdT w A n t) (hn : 0 < n) :
    ∃ b off, A = some ⟨b, off, none⟩ ∧ b < w.heap.size ∧ ∀ i, i < n → w.cell? ⟨b, off + i, none⟩ = some (.string (t i)) := by
  obtain ⟨a, e, hlt, hc, _⟩ := h 0 hn
  have hs : a.spot = none := spot_noneT (by simpa [Addr.add] using hc)
  obtain ⟨b, off, sp⟩ := a
  simp only at hs
  subst hs
  refine ⟨b, off, e, hlt, fun i hi => ?_⟩
  obtain ⟨a', e', _, hc', _⟩ := h i hi
  rw [e] at e'
  cases e'
  by_cases h0 : i = 0
  · subst h0; simpa [Addr.add] using hc'
  · simpa [Addr.add, h0] using hc'
section
variable {P : Program} {H : Type} {enc : TypeId × Value → H}
theorem trod_rdT {w : World} {t e : TypeId} {n : Nat} {v : Value} {x : DataW H × List MemPlace} (ht : P.underlying t = some (.slice e)) (he : P.underlying e = some .string) (hc : P.cellsOf e = 1)
    (h : DataW.trod enc P w 0 (fun _ => true) true n t [v] = some x) : ∃ A c k s, v = .slice A k c ∧ k ≤ c ∧ c ≤ maxLen ∧ RdT w A k s ∧ (A = none → c = 0) := by
  rcases open_strings ht he hc h with ⟨h1, _⟩ | ⟨a, len, cap, ss, h1, _, hl, hm, hz, _, hcell, hwf⟩
  · exact ⟨none, 0, 0, fun _ => ByteArray.empty, by simpa using h1, by simp, by simp [maxLen], fun i hi => absurd hi (by omega), fun _ => rfl⟩
  · simp only [if_true] at hz
    refine ⟨some a, cap, len, fun i => ss.getD i ByteArray.empty, by simpa using h1, hl, hm, fun i hi => ?_, fun e => by cases e⟩
    have hi' : i < ss.length := by omega
    have hh := hcell i hi'
    refine ⟨a, rfl, by have := lt_of_cell hh; rwa [block_add] at this, hh, hwf _ ?_⟩
    show ss.getD i ByteArray.empty ∈ ss
    rw [List.getD_eq_getElem?_getD, List.getElem?_eq_getElem hi']
    simp
theorem open_rdT {w : World} {t e : TypeId} {v : Value} {d : DataW H} {ps : List MemPlace} (ht : P.underlying t = some (.slice e)) (he : P.underlying e = some .string) (hc : P.cellsOf e = 1)
    (hone : v.cells.toList = [v]) (h : DataW.Trod enc P w 0 (fun _ => true) true t v d ps) : ∃ A c k s, v = .slice A k c ∧ k ≤ c ∧ c ≤ maxLen ∧ RdT w A k s ∧ (A = none → c = 0) := by
  obtain ⟨n, h⟩ := h
  rw [hone] at h
  exact trod_rdT ht he hc h
end
/-- strings told by a function of the place -/
def rowS (t : Nat → ByteArray) (n : Nat) : List Value := (List.range n).map fun i => .string (t i)
theorem rowS_len (t : Nat → ByteArray) (n : Nat) : (rowS t n).length = n := by simp [rowS]
theorem rowS_get {t : Nat → ByteArray} {n i : Nat} (h : i < n) : (rowS t n)[i]? = some (.string (t i)) := by simp [rowS, h]
theorem rowS_set {t : Nat → ByteArray} {n k : Nat} {s : ByteArray} : (rowS t n).set k (.string s) = rowS (fun i => if i = k then s else t i) n := by
  apply List.ext_getElem
  · simp [rowS]
  · intro i h1 h2
    simp only [rowS, List.getElem_set, List.getElem_map, List.getElem_range]
    by_cases h : k = i
    · simp [h]
    · simp [h, Ne.symm h]
theorem rowS_congr {t u : Nat → ByteArray} {n : Nat} (h : ∀ i, i < n → t i = u i) : rowS t n = rowS u n := by
  unfold rowS; exact List.map_congr_left fun i hi => by rw [h i (List.mem_range.1 hi)]
theorem rowS_zeros (n : Nat) : (madeCells (Value.cells (.string ByteArray.empty)) (n * 1)).toList = rowS (fun _ => ByteArray.empty) n := by
  rw [Nat.mul_one]
  show (madeCells #[Value.string ByteArray.empty] n).toList = _
  rw [toList_madeCells_one]
  unfold rowS
  apply List.ext_getElem
  · simp
  · intro i h1 h2; simp
theorem ownS_cell {w : World} {base : Nat} {e : TypeId} {g cap n : Nat} {t : Nat → ByteArray} (h : w.ownsRow base e 1 (.slice (some ⟨g, 0, none⟩) n cap) n (rowS t n)) {i : Nat} (hi : i < n) : w.cell? ⟨g, i, none⟩ = some (.string (t i)) := by
  rw [h.cellAt i (by omega), rowS_get hi]
theorem ownS_put {w : World} {base : Nat} {e : TypeId} {g cap n : Nat} {t : Nat → ByteArray} (h : w.ownsRow base e 1 (.slice (some ⟨g, 0, none⟩) n cap) n (rowS t n)) (k : Nat) (s : ByteArray) :
    (w.setCell ⟨g, k, none⟩ (.string s)).ownsRow base e 1 (.slice (some ⟨g, 0, none⟩) n cap) n (rowS (fun i => if i = k then s else t i) n) := by
  have := (h.stored k (.string s)).1
  rw [rowS_set] at this
  exact this
theorem ownS_rd {w : World} {base : Nat} {e : TypeId} {g cap n : Nat} {t : Nat → ByteArray} (h : w.ownsRow base e 1 (.slice (some ⟨g, 0, none⟩) n cap) n (rowS t n)) (hs : ∀ i, i < n → (t i).size ≤ maxLen) : RdT w (some ⟨g, 0, none⟩) n t := fun i hi => by
  refine ⟨⟨g, 0, none⟩, rfl, (h.lt g rfl).2, ?_, hs i hi⟩
  have := ownS_cell h hi
  by_cases h0 : i = 0
  · subst h0; simpa [Addr.add] using this
  · simpa [Addr.add, h0] using this
end Go.Proofs.YtkonghjmipclmaaDoor
