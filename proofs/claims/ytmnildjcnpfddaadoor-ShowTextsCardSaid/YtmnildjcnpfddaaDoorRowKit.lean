/- The last step of a law whose walk leaves all old blocks as they were: its arguments read as they did, whatever their types. -/
import Derived.Test.YtmnildjcnpfddaaDoorRows
import Derived.WalkKit
import Derived.ProofKit
import Derived.OpenShut
import Derived.Carry
import Derived.OpenVars
import Derived.Below
import Derived.ChangeSame
import Derived.ChangeSlices
import Derived.Lib.SmallJoins
import Derived.Deep.Draws
namespace Go.Proofs.YtmnildjcnpfddaaDoor
open Go.ChangeShapes Go.WideShapes Go.ChangeAt Go.RowKit Go.Joins
set_option linter.unusedVariables false
theorem below_drewN {B : Nat} {a w : World} (h : Below B a w) (n : Nat) : Below B a (w.drewN n) := ⟨h.os, h.tape, h.output, h.size, h.block⟩
theorem laidOut : laidOutB Tryd.prog = true := by kernel_rfl
section
variable {P : Program}
/-- every parameter's type reads as data -/
def argsRead (P : Program) (ts : List TypeId) : Bool := ts.all fun t => P.readableRec t && decide (t < P.types.size)
variable {H : Type} {enc : TypeId × Value → H}
theorem trodAll_kept (hl : laidOutB P = true) {W W' : World} (hb : Below W.heap.size W W') : ∀ {ts : List TypeId} {vs : List Value} {ds : List (DataW H)} {ps : List MemPlace}, argsRead P ts = true → (∀ x ∈ ps, x.block < W.heap.size) →
    DataW.TrodAll enc P W 0 (fun _ => true) true ts vs ds ps → DataW.TrodAll enc P W' 0 (fun b => decide (b < W.heap.size)) true ts vs ds ps
  | [], [], [], ps, _, _, h => h
  | [], _ :: _, _, _, _, _, h => h.elim
  | [], [], _ :: _, _, _, _, h => h.elim
  | _ :: _, [], _, _, _, _, h => h.elim
  | _ :: _, _ :: _, [], _, _, _, h => h.elim
  | t :: ts, v :: vs, d :: ds, ps, hr, hlt, h => by
    obtain ⟨p, q, h1, h2, e⟩ := h
    have hr' := hr
    simp only [argsRead, List.all_cons, Bool.and_eq_true, decide_eq_true_eq] at hr'
    refine ⟨p, q, Below.trod hl hr'.1.1 hr'.1.2 h1 hb fun x hx => hlt x (by rw [e]; exact List.mem_append_left _ hx), ?_, e⟩
    exact trodAll_kept hl hb (by simp only [argsRead]; exact hr'.2) (fun x hx => hlt x (by rw [e]; exact List.mem_append_right _ hx)) h2
theorem post_true {f : Func} {s : ChangeSpec} {tb : TypeId} {W W' : World} {args : Array Value} {ds gs : List (DataW H)} {before : List MemPlace}
    (hl : laidOutB P = true) (hW : DataW.Whole enc P f.params.toList s.vars false W args.toList ds gs before) (hr : argsRead P f.params.toList = true) (hv : s.vars = []) (hu : P.underlying tb = some .bool) (ht : f.resultTypes = #[tb])
    (hfn : s.fn H (ds ++ gs) = { results := [.lit (.bool true)], args := ds, vars := [] }) (hb : Below W.heap.size W W') :
    s.post enc P f false true false false W args (.bool true) W' := by
  have hlt : ∀ p ∈ before, p.block < W.heap.size := fun p hp => hW.lt p hp
  have hW' := hW
  obtain ⟨p, q, hA, hV, e, _, _⟩ := hW
  rw [hv] at hV
  obtain ⟨rfl, rfl⟩ := trodVars_none hV
  rw [List.append_nil] at e
  subst e
  refine ⟨ds, [], before, [], before, [], hW', ?_, ?_, ?_, World.keptBut_mono (fun p hp => ⟨hp, .inr (.inl hp)⟩) (hb.frame (· ∈ before)), fun h => by cases h⟩
  · rw [hfn, ht]
    exact trodAll_mk1 (shut_bool hu _)
  · rw [hfn]; exact trodAll_kept hl hb hr hlt hA
  · rw [hfn, hv]; exact rfl
/-- the number at a place (0: there is none); a name that the walk does not open -/
def zat (zs : List Int) (i : Nat) : Int := zs.getD i 0
/-- a slice of one-cell numbers, nil too -/
def RdI (w : World) (k : IntKind) (A : Option Addr) (zs : List Int) : Prop :=
  ∀ i, i < zs.length → ∃ a, A = some a ∧ a.block < w.heap.size ∧ w.cell? (a.add i) = some (.int k (zat zs i)) ∧ (Lit.int k (zat zs i)).wf = true
theorem block_add (a : Addr) (n : Nat) : (a.add n).block = a.block := by unfold Addr.add; split <;> rfl
theorem RdI.kept {w w' : World} {k : IntKind} {A : Option Addr} {zs : List Int} (h : RdI w k A zs) (hb : Below w.heap.size w w') : RdI w' k A zs := fun i hi => by
  obtain ⟨a, e, hlt, hc, hw⟩ := h i hi
  exact ⟨a, e, Nat.lt_of_lt_of_le hlt hb.size, (hb.cell (by rw [block_add]; exact hlt)).trans hc, hw⟩
theorem lt_of_cell {w : World} {a : Addr} {v : Value} (h : w.cell? a = some v) : a.block < w.heap.size := by
  rcases Nat.lt_or_ge a.block w.heap.size with h1 | h1
  · exact h1
  · unfold World.cell? at h; rw [Array.getElem?_eq_none h1] at h; simp at h
theorem trod_rdI {w : World} {t e : TypeId} {k : IntKind} {n : Nat} {v : Value} {x : DataW H × List MemPlace} (ht : P.underlying t = some (.slice e)) (he : P.underlying e = some (.int k)) (hc : P.cellsOf e = 1)
    (h : DataW.trod enc P w 0 (fun _ => true) true n t [v] = some x) : ∃ A c zs, v = .slice A zs.length c ∧ zs.length ≤ c ∧ c ≤ maxLen ∧ RdI w k A zs := by
  rcases open_ints ht he hc h with ⟨h1, _⟩ | ⟨a, len, cap, zs, h1, _, hl, hm, hz, _, hcell, hwf⟩
  · refine ⟨none, 0, [], by simpa using h1, by simp, by simp [maxLen], fun i hi => by simp at hi⟩
  · simp only [if_true] at hz
    have el : (zs.take len).length = len := by rw [List.length_take]; omega
    refine ⟨some a, cap, zs.take len, by rw [el]; simpa using h1, by omega, hm, fun i hi => ?_⟩
    rw [el] at hi
    have hi' : i < zs.length := by omega
    have eg : (zs.take len).getD i 0 = zs.getD i 0 := by
      simp [List.getD_eq_getElem?_getD, hi]
    have hh := hcell i hi'
    refine ⟨a, rfl, by have := lt_of_cell hh; rwa [block_add] at this, by unfold zat; rw [eg]; exact hh, ?_⟩
    unfold zat
    rw [eg]
    refine hwf _ ?_
    rw [List.getD_eq_getElem?_getD, List.getElem?_eq_getElem hi']
    simp
theorem open_rdI {w : World} {t e : TypeId} {k : IntKind} {v : Value} {d : DataW H} {ps : List MemPlace} (ht : P.underlying t = some (.slice e)) (he : P.underlying e = some (.int k)) (hc : P.cellsOf e = 1)
    (hone : v.cells.toList = [v]) (h : DataW.Trod enc P w 0 (fun _ => true) true t v d ps) : ∃ A c zs, v = .slice A zs.length c ∧ zs.length ≤ c ∧ c ≤ maxLen ∧ RdI w k A zs := by
  obtain ⟨n, h⟩ := h
  rw [hone] at h
  exact trod_rdI ht he hc h
theorem trod_i {w : World} {t : TypeId} {k : IntKind} {n : Nat} {v : Value} {x : DataW H × List MemPlace} (ht : P.underlying t = some (.int k)) (h : DataW.trod enc P w 0 (fun _ => true) true n t [v] = some x) : ∃ a, v = .int k a ∧ (Lit.int k a).wf = true := by
  obtain ⟨a, e, _, hw⟩ := DataW.trod_int ht h
  simp at e
  exact ⟨a, e, hw⟩
end
end Go.Proofs.YtmnildjcnpfddaaDoor
