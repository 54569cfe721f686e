/- Joined kit texts: RowKit RowS RowZ RowV RowS3 Blocks SlicesEq RowL SlicesEqM MakeI. -/
import Derived.Test.YtbjcigkakeffmaaDoorRows
import Derived.WalkKit
import Derived.ProofKit
import Derived.OpenShut
import Derived.Carry
import Derived.OpenVars
import Derived.Below
import Derived.ChangeSame
import Derived.ChangeSlices
import Derived.Lib.SmallJoins
import Derived.Deep.Draws
import Derived.Deep.Slices
import Derived.Deep.Fields
import Derived.Lib.Hide
import Derived.Laws.CopyOwn
import Derived.Deep.WholeRow
import Derived.WalkSpells
import Derived.WalkLawsBesides
import Derived.Deep.QuietTactic
import Derived.BigQuiet
import Derived.Laws.MakeOwn
import Derived.Laws.OwnMore
namespace Go.Proofs.YtbjcigkakeffmaaDoor
open Go.ChangeShapes Go.WideShapes Go.ChangeAt Go.RowKit Go.Joins
set_option linter.unusedVariables false
theorem below_drewN {B : Nat} {a w : World} (h : Below B a w) (n : Nat) : Below B a (w.drewN n) := ⟨h.os, h.tape, h.output, h.size, h.block⟩
theorem laidOut : laidOutB Tryd.prog = true := by kernel_rfl
section
variable {P : Program}
/-- every parameter's type reads as data -/
def argsRead (P : Program) (ts : List TypeId) : Bool := ts.all fun t => P.readableRec t && decide (t < P.types.size)
variable {H : Type} {enc : TypeId × Value → H}
theorem trodAll_kept (hl : laidOutB P = true) {W W' : World} (hb : Below W.heap.size W W') : ∀ {ts : List TypeId} {vs : List Value} {ds : List (DataW H)} {ps : List MemPlace}, argsRead P ts = true → (∀ x ∈ ps, x.block < W.heap.size) →
    DataW.TrodAll enc P W 0 (fun _ => true) true ts vs ds ps → DataW.TrodAll enc P W' 0 (fun b => decide (b < W.heap.size)) true ts vs ds ps
  | [], [], [], ps, _, _, h => h
  | [], _ :: _, _, _, _, _, h => h.elim
  | [], [], _ :: _, _, _, _, h => h.elim
  | _ :: _, [], _, _, _, _, h => h.elim
  | _ :: _, _ :: _, [], _, _, _, h => h.elim
  | t :: ts, v :: vs, d :: ds, ps, hr, hlt, h => by
    obtain ⟨p, q, h1, h2, e⟩ := h
    have hr' := hr
    simp only [argsRead, List.all_cons, Bool.and_eq_true, decide_eq_true_eq] at hr'
    refine ⟨p, q, Below.trod hl hr'.1.1 hr'.1.2 h1 hb fun x hx => hlt x (by rw [e]; exact List.mem_append_left _ hx), ?_, e⟩
    exact trodAll_kept hl hb (by simp only [argsRead]; exact hr'.2) (fun x hx => hlt x (by rw [e]; exact List.mem_append_right _ hx)) h2
theorem post_true {f : Func} {s : ChangeSpec} {tb : TypeId} {W W' : World} {args : Array Value} {ds gs : List (DataW H)} {before : List MemPlace}
    (hl : laidOutB P = true) (hW : DataW.Whole enc P f.params.toList s.vars false W args.toList ds gs before) (hr : argsRead P f.params.toList = true) (hv : s.vars = []) (hu : P.underlying tb = some .bool) (ht : f.resultTypes = #[tb])
    (hfn : s.fn H (ds ++ gs) = { results := [.lit (.bool true)], args := ds, vars := [] }) (hb : Below W.heap.size W W') :
    s.post enc P f false true false false W args (.bool true) W' := by
  have hlt : ∀ p ∈ before, p.block < W.heap.size := fun p hp => hW.lt p hp
  have hW' := hW
  obtain ⟨p, q, hA, hV, e, _, _⟩ := hW
  rw [hv] at hV
  obtain ⟨rfl, rfl⟩ := trodVars_none hV
  rw [List.append_nil] at e
  subst e
  refine ⟨ds, [], before, [], before, [], hW', ?_, ?_, ?_, World.keptBut_mono (fun p hp => ⟨hp, .inr (.inl hp)⟩) (hb.frame (· ∈ before)), fun h => by cases h⟩
  · rw [hfn, ht]
    exact trodAll_mk1 (shut_bool hu _)
  · rw [hfn]; exact trodAll_kept hl hb hr hlt hA
  · rw [hfn, hv]; exact rfl
/-- the number at a place (0: there is none); a name that the walk does not open -/
def zat (zs : List Int) (i : Nat) : Int := zs.getD i 0
/-- a slice of one-cell numbers, nil too -/
def RdI (w : World) (k : IntKind) (A : Option Addr) (zs : List Int) : Prop :=
  ∀ i, i < zs.length → ∃ a, A = some a ∧ a.block < w.heap.size ∧ w.cell? (a.add i) = some (.int k (zat zs i)) ∧ (Lit.int k (zat zs i)).wf = true
theorem block_add (a : Addr) (n : Nat) : (a.add n).block = a.block := by unfold Addr.add; split <;> rfl
theorem RdI.kept {w w' : World} {k : IntKind} {A : Option Addr} {zs : List Int} (h : RdI w k A zs) (hb : Below w.heap.size w w') : RdI w' k A zs := fun i hi => by
  obtain ⟨a, e, hlt, hc, hw⟩ := h i hi
  exact ⟨a, e, Nat.lt_of_lt_of_le hlt hb.size, (hb.cell (by rw [block_add]; exact hlt)).trans hc, hw⟩
theorem lt_of_cell {w : World} {a : Addr} {v : Value} (h : w.cell? a = some v) : a.block < w.heap.size := by
  rcases Nat.lt_or_ge a.block w.heap.size with h1 | h1
  · exact h1
  · unfold World.cell? at h; rw [Array.getElem?_eq_none h1] at h; simp at h
theorem trod_rdI {w : World} {t e : TypeId} {k : IntKind} {n : Nat} {v : Value} {x : DataW H × List MemPlace} (ht : P.underlying t = some (.slice e)) (he : P.underlying e = some (.int k)) (hc : P.cellsOf e = 1)
    (h : DataW.trod enc P w 0 (fun _ => true) true n t [v] = some x) : ∃ A c zs, v = .slice A zs.length c ∧ zs.length ≤ c ∧ c ≤ maxLen ∧ RdI w k A zs := by
  rcases open_ints ht he hc h with ⟨h1, _⟩ | ⟨a, len, cap, zs, h1, _, hl, hm, hz, _, hcell, hwf⟩
  · refine ⟨none, 0, [], by simpa using h1, by simp, by simp [maxLen], fun i hi => by simp at hi⟩
  · simp only [if_true] at hz
    have el : (zs.take len).length = len := by rw [List.length_take]; omega
    refine ⟨some a, cap, zs.take len, by rw [el]; simpa using h1, by omega, hm, fun i hi => ?_⟩
    rw [el] at hi
    have hi' : i < zs.length := by omega
    have eg : (zs.take len).getD i 0 = zs.getD i 0 := by
      simp [List.getD_eq_getElem?_getD, hi]
    have hh := hcell i hi'
    refine ⟨a, rfl, by have := lt_of_cell hh; rwa [block_add] at this, by unfold zat; rw [eg]; exact hh, ?_⟩
    unfold zat
    rw [eg]
    refine hwf _ ?_
    rw [List.getD_eq_getElem?_getD, List.getElem?_eq_getElem hi']
    simp
theorem open_rdI {w : World} {t e : TypeId} {k : IntKind} {v : Value} {d : DataW H} {ps : List MemPlace} (ht : P.underlying t = some (.slice e)) (he : P.underlying e = some (.int k)) (hc : P.cellsOf e = 1)
    (hone : v.cells.toList = [v]) (h : DataW.Trod enc P w 0 (fun _ => true) true t v d ps) : ∃ A c zs, v = .slice A zs.length c ∧ zs.length ≤ c ∧ c ≤ maxLen ∧ RdI w k A zs := by
  obtain ⟨n, h⟩ := h
  rw [hone] at h
  exact trod_rdI ht he hc h
theorem trod_i {w : World} {t : TypeId} {k : IntKind} {n : Nat} {v : Value} {x : DataW H × List MemPlace} (ht : P.underlying t = some (.int k)) (h : DataW.trod enc P w 0 (fun _ => true) true n t [v] = some x) : ∃ a, v = .int k a ∧ (Lit.int k a).wf = true := by
  obtain ⟨a, e, _, hw⟩ := DataW.trod_int ht h
  simp at e
  exact ⟨a, e, hw⟩
end
end Go.Proofs.YtbjcigkakeffmaaDoor


namespace Go.Proofs.YtbjcigkakeffmaaDoor
open Go.ChangeShapes Go.WideShapes Go.ChangeAt Go.RowKit Go.Joins Go.Deep
set_option linter.unusedVariables false
theorem list1 {α : Type} : ∀ {l : List α}, l.length = 1 → ∃ a0, l = [a0]
  | [a0], _ => ⟨a0, rfl⟩
theorem list2 {α : Type} : ∀ {l : List α}, l.length = 2 → ∃ a0 a1, l = [a0, a1]
  | [a0, a1], _ => ⟨a0, a1, rfl⟩
theorem list3 {α : Type} : ∀ {l : List α}, l.length = 3 → ∃ a0 a1 a2, l = [a0, a1, a2]
  | [a0, a1, a2], _ => ⟨a0, a1, a2, rfl⟩
theorem list4 {α : Type} : ∀ {l : List α}, l.length = 4 → ∃ a0 a1 a2 a3, l = [a0, a1, a2, a3]
  | [a0, a1, a2, a3], _ => ⟨a0, a1, a2, a3, rfl⟩
theorem list5 {α : Type} : ∀ {l : List α}, l.length = 5 → ∃ a0 a1 a2 a3 a4, l = [a0, a1, a2, a3, a4]
  | [a0, a1, a2, a3, a4], _ => ⟨a0, a1, a2, a3, a4, rfl⟩
theorem list6 {α : Type} : ∀ {l : List α}, l.length = 6 → ∃ a0 a1 a2 a3 a4 a5, l = [a0, a1, a2, a3, a4, a5]
  | [a0, a1, a2, a3, a4, a5], _ => ⟨a0, a1, a2, a3, a4, a5, rfl⟩
theorem list7 {α : Type} : ∀ {l : List α}, l.length = 7 → ∃ a0 a1 a2 a3 a4 a5 a6, l = [a0, a1, a2, a3, a4, a5, a6]
  | [a0, a1, a2, a3, a4, a5, a6], _ => ⟨a0, a1, a2, a3, a4, a5, a6, rfl⟩
theorem list8 {α : Type} : ∀ {l : List α}, l.length = 8 → ∃ a0 a1 a2 a3 a4 a5 a6 a7, l = [a0, a1, a2, a3, a4, a5, a6, a7]
  | [a0, a1, a2, a3, a4, a5, a6, a7], _ => ⟨a0, a1, a2, a3, a4, a5, a6, a7, rfl⟩
theorem list9 {α : Type} : ∀ {l : List α}, l.length = 9 → ∃ a0 a1 a2 a3 a4 a5 a6 a7 a8, l = [a0, a1, a2, a3, a4, a5, a6, a7, a8]
  | [a0, a1, a2, a3, a4, a5, a6, a7, a8], _ => ⟨a0, a1, a2, a3, a4, a5, a6, a7, a8, rfl⟩
theorem list10 {α : Type} : ∀ {l : List α}, l.length = 10 → ∃ a0 a1 a2 a3 a4 a5 a6 a7 a8 a9, l = [a0, a1, a2, a3, a4, a5, a6, a7, a8, a9]
  | [a0, a1, a2, a3, a4, a5, a6, a7, a8, a9], _ => ⟨a0, a1, a2, a3, a4, a5, a6, a7, a8, a9, rfl⟩
theorem list11 {α : Type} : ∀ {l : List α}, l.length = 11 → ∃ a0 a1 a2 a3 a4 a5 a6 a7 a8 a9 a10, l = [a0, a1, a2, a3, a4, a5, a6, a7, a8, a9, a10]
  | [a0, a1, a2, a3, a4, a5, a6, a7, a8, a9, a10], _ => ⟨a0, a1, a2, a3, a4, a5, a6, a7, a8, a9, a10, rfl⟩
theorem list12 {α : Type} : ∀ {l : List α}, l.length = 12 → ∃ a0 a1 a2 a3 a4 a5 a6 a7 a8 a9 a10 a11, l = [a0, a1, a2, a3, a4, a5, a6, a7, a8, a9, a10, a11]
  | [a0, a1, a2, a3, a4, a5, a6, a7, a8, a9, a10, a11], _ => ⟨a0, a1, a2, a3, a4, a5, a6, a7, a8, a9, a10, a11, rfl⟩
theorem list13 {α : Type} : ∀ {l : List α}, l.length = 13 → ∃ a0 a1 a2 a3 a4 a5 a6 a7 a8 a9 a10 a11 a12, l = [a0, a1, a2, a3, a4, a5, a6, a7, a8, a9, a10, a11, a12]
  | [a0, a1, a2, a3, a4, a5, a6, a7, a8, a9, a10, a11, a12], _ => ⟨a0, a1, a2, a3, a4, a5, a6, a7, a8, a9, a10, a11, a12, rfl⟩
section
variable {P : Program} {H : Type} {enc : TypeId × Value → H}
/-- a struct of one-cell fields, by value: each field's reading -/
theorem open_fields {w : World} {base : Nat} {spare : Nat → Bool} {held : Bool} {r : Reach} {b0 : Nat} {t : TypeId} {fs : Array Field} {v : Value} {d : DataW H} {p : List MemPlace} (hs : P.underlying t = some (.struct fs)) (hone : oneCellFields P fs = true) (hC : P.cellsOf t = fs.size)
    (hv : Value.okWide P w r b0 t v) (h : DataW.Trod enc P w base spare held t v d p) :
    ∃ l : List Value, v = .agg l.toArray ∧ l.length = fs.size ∧ ∃ n : Nat, ∀ (j : Nat) (f : Field) (u : Value), fs[j]? = some f → l[j]? = some u → ∃ y, DataW.trod enc P w base spare held n f.type [u] = some y := by
  obtain ⟨cs, rfl, hsz⟩ := okWide_struct hs hv
  obtain ⟨l⟩ := cs
  obtain ⟨fuel, hf⟩ := h
  obtain ⟨xs, n, _, hx, _, hlen, hg⟩ := DataW.trod_struct hs hf
  refine ⟨l, rfl, by simpa using hsz.trans hC, n, fun j f u hj hu => ?_⟩
  obtain ⟨ho, hk⟩ := hone_of hone j f hj
  have hjl : j < fs.size := (Array.getElem?_eq_some_iff.1 hj).1
  have h1 := hg j f hj
  rw [ho, hk] at h1
  have hjl' : j < l.length := (List.getElem?_eq_some_iff.1 hu).1
  have hu' : l[j] = u := (List.getElem?_eq_some_iff.1 hu).2
  have hd : ((Value.agg l.toArray).cells.toList.drop j).take 1 = [u] := by
    show (l.drop j).take 1 = [u]
    rw [List.drop_eq_getElem_cons hjl', hu']; rfl
  rw [hd] at h1
  have hys : xs[j]? = some (xs[j]'(by omega)) := List.getElem?_eq_getElem (by omega)
  exact ⟨_, h1.trans hys⟩
theorem trod_i_any {w : World} {base : Nat} {spare : Nat → Bool} {held : Bool} {t : TypeId} {k : IntKind} {n : Nat} {v : Value} {x : DataW H × List MemPlace} (ht : P.underlying t = some (.int k)) (h : DataW.trod enc P w base spare held n t [v] = some x) : ∃ a, v = .int k a ∧ (Lit.int k a).wf = true := by
  obtain ⟨a, e, _, hw⟩ := DataW.trod_int ht h
  simp at e
  exact ⟨a, e, hw⟩
theorem trod_b {w : World} {base : Nat} {spare : Nat → Bool} {held : Bool} {t : TypeId} {n : Nat} {v : Value} {x : DataW H × List MemPlace} (ht : P.underlying t = some .bool) (h : DataW.trod enc P w base spare held n t [v] = some x) : ∃ a, v = .bool a := by
  obtain ⟨a, e, _⟩ := DataW.trod_bool ht h
  simp at e
  exact ⟨a, e⟩
/-- an array of numbers, by value -/
theorem open_array {w : World} {base : Nat} {spare : Nat → Bool} {held : Bool} {r : Reach} {b0 : Nat} {t e : TypeId} {m : Nat} {k : IntKind} {v : Value} {d : DataW H} {p : List MemPlace} (hs : P.underlying t = some (.array m e)) (he : P.underlying e = some (.int k)) (hc : P.cellsOf e = 1) (hC : P.cellsOf t = m)
    (hv : Value.okWide P w r b0 t v) (h : DataW.Trod enc P w base spare held t v d p) :
    ∃ z : List Int, v = .agg (z.map (Value.int k)).toArray ∧ z.length = m ∧ ∀ (j : Nat) (n : Int), z[j]? = some n → (Lit.int k n).wf = true := by
  simp only [Value.okWide, hs] at hv
  obtain ⟨cs, rfl, hsz, _⟩ := hv
  obtain ⟨l⟩ := cs
  obtain ⟨fuel, hf⟩ := h
  obtain ⟨xs, n, _, hx, _, hlen, hg⟩ := DataW.trod_array hs hf
  have hl : l.length = m := by simpa using hsz.trans hC
  have key : ∀ j (hj : j < m), ∃ a : Int, l[j]'(by omega) = .int k a ∧ (Lit.int k a).wf = true := by
    intro j hj
    have h1 := hg j hj
    rw [hc, Nat.mul_one] at h1
    have hd : ((Value.agg l.toArray).cells.toList.drop j).take 1 = [l[j]'(by omega)] := by
      show (l.drop j).take 1 = _
      rw [List.drop_eq_getElem_cons (by omega)]; rfl
    rw [hd, List.getElem?_eq_getElem (by omega)] at h1
    exact trod_i_any he h1
  refine ⟨l.map intOf, ?_, by simpa using hl, ?_⟩
  · congr 1
    rw [List.map_map]
    congr 1
    apply List.ext_getElem
    · simp
    · intro i h1 h2
      obtain ⟨a, ha, _⟩ := key i (by omega)
      simp [ha, intOf]
  · intro j n hj
    rw [List.getElem?_map] at hj
    have hjl : j < l.length := by
      rcases Nat.lt_or_ge j l.length with c | c
      · exact c
      · rw [List.getElem?_eq_none c] at hj; cases hj
    obtain ⟨a, ha, hw⟩ := key j (by omega)
    rw [List.getElem?_eq_getElem hjl, ha] at hj
    simp [intOf] at hj
    subst hj; exact hw
/-- a slice of structs of m numbers each; nil too -/
def RdZ (w : World) (m : Nat) (A : Option Addr) (n : Nat) (z : Nat → Nat → Int) : Prop :=
  ∀ i, i < n → ∃ a, A = some a ∧ a.block < w.heap.size ∧ ∀ j, j < m → w.cell? (a.add (i * m + j)) = some (.int .i64 (z i j)) ∧ (Lit.int .i64 (z i j)).wf = true
theorem RdZ.kept {w w' : World} {m : Nat} {A : Option Addr} {n : Nat} {z : Nat → Nat → Int} (h : RdZ w m A n z) (hb : Below w.heap.size w w') : RdZ w' m A n z := fun i hi => by
  obtain ⟨a, e, hlt, hc⟩ := h i hi
  exact ⟨a, e, Nat.lt_of_lt_of_le hlt hb.size, fun j hj => ⟨(hb.cell (by rw [block_add]; exact hlt)).trans (hc j hj).1, (hc j hj).2⟩⟩
theorem trod_rdZ {w : World} {t e : TypeId} {fs : Array Field} {n : Nat} {v : Value} {x : DataW H × List MemPlace} (ht : P.underlying t = some (.slice e)) (he : P.underlying e = some (.struct fs)) (hone : oneCellFields P fs = true) (hC : P.cellsOf e = fs.size)
    (h0 : 0 < fs.size) (hints : ∀ (j : Nat) (f : Field), fs[j]? = some f → P.underlying f.type = some (.int .i64))
    (h : DataW.trod enc P w 0 (fun _ => true) true n t [v] = some x) : ∃ A c k z, v = .slice A k c ∧ k ≤ c ∧ c ≤ maxLen ∧ RdZ w fs.size A k z ∧ (A = none → c = 0) := by
  rcases open_slice ht h with ⟨h1, _⟩ | ⟨a, len, cap, m, k, D, Pl, hcs, hb, hl, hm, hmm, hx, hi⟩
  · refine ⟨none, 0, 0, fun _ _ => 0, by simpa using h1, by simp, by simp [maxLen], fun i hi => absurd hi (by omega), fun _ => rfl⟩
  · simp only [if_true] at hmm
    refine ⟨some a, cap, len, fun i j => intOf ((w.cell? (a.add (i * fs.size + j))).getD undef), by simpa using hcs, hl, hm, fun i hil => ?_, fun e => by cases e⟩
    obtain ⟨cs', hc, ht'⟩ := hi i (by omega)
    rw [hC] at hc
    obtain ⟨ys, n', hn', hy, hlen, hyl, hf⟩ := DataW.trod_struct he ht'
    obtain ⟨_, hcl, hat⟩ := World.cells?_some hc
    have key : ∀ j, j < fs.size → ∃ z : Int, w.cell? (a.add (i * fs.size + j)) = some (.int .i64 z) ∧ (Lit.int .i64 z).wf = true := by
      intro j hj
      have hfj : fs[j]? = some fs[j] := Array.getElem?_eq_getElem hj
      obtain ⟨ho, hk⟩ := hone_of hone j _ hfj
      have hcell := hat j hj
      have h1 := hf j _ hfj
      rw [ho, hk] at h1
      have hone' : (cs'.drop j).take 1 = [cs'[j]'(by omega)] := by
        rw [List.drop_eq_getElem_cons (by omega)]
        rfl
      rw [hone'] at h1
      have hys : ys[j]? = some (ys[j]'(by omega)) := List.getElem?_eq_getElem (by omega)
      obtain ⟨z, hz, hw⟩ := trod_i (hints j _ hfj) (h1.trans hys)
      refine ⟨z, ?_, hw⟩
      rw [← Go.Deep.add_add, hcell, List.getElem?_eq_getElem (by omega), hz]
    refine ⟨a, rfl, ?_, fun j hj => ?_⟩
    · obtain ⟨z, hz, _⟩ := key 0 h0
      have := lt_of_cell hz
      rwa [block_add] at this
    · obtain ⟨z, hz, hw⟩ := key j hj
      refine ⟨?_, ?_⟩
      · show _ = some (Value.int .i64 (intOf ((w.cell? (a.add (i * fs.size + j))).getD undef)))
        rw [hz]; rfl
      · show (Lit.int .i64 (intOf ((w.cell? (a.add (i * fs.size + j))).getD undef))).wf = true
        rw [hz]; exact hw
theorem open_rdZ {w : World} {t e : TypeId} {fs : Array Field} {v : Value} {d : DataW H} {ps : List MemPlace} (ht : P.underlying t = some (.slice e)) (he : P.underlying e = some (.struct fs)) (hone : oneCellFields P fs = true) (hC : P.cellsOf e = fs.size)
    (h0 : 0 < fs.size) (hints : ∀ (j : Nat) (f : Field), fs[j]? = some f → P.underlying f.type = some (.int .i64))
    (h1 : v.cells.toList = [v]) (h : DataW.Trod enc P w 0 (fun _ => true) true t v d ps) : ∃ A c k z, v = .slice A k c ∧ k ≤ c ∧ c ≤ maxLen ∧ RdZ w fs.size A k z ∧ (A = none → c = 0) := by
  obtain ⟨n, h⟩ := h
  rw [h1] at h
  exact trod_rdZ ht he hone hC h0 hints h
end
end Go.Proofs.YtbjcigkakeffmaaDoor


namespace Go.Proofs.YtbjcigkakeffmaaDoor
open Go.RowKit
set_option linter.unusedVariables false
theorem spot_noneZ {w : World} {a : Addr} {v : Value} (h : w.cell? a = some v) : a.spot = none := by
  obtain ⟨b, o, s⟩ := a
  cases s with
  | none => rfl
  | some s => unfold World.cell? at h; split at h <;> simp_all
theorem rdZ_row {w : World} {m : Nat} {A : Option Addr} {n : Nat} {z : Nat → Nat → Int} (h : RdZ w m A n z) (hm : 0 < m) (hn : 0 < n) :
    ∃ b off, A = some ⟨b, off, none⟩ ∧ b < w.heap.size ∧ ∀ i j, i < n → j < m → w.cell? ⟨b, off + i * m + j, none⟩ = some (.int .i64 (z i j)) := by
  obtain ⟨a, e, hlt, hc⟩ := h 0 hn
  have hs : a.spot = none := spot_noneZ (by simpa [Addr.add] using (hc 0 hm).1)
  obtain ⟨b, off, sp⟩ := a
  simp only at hs
  subst hs
  refine ⟨b, off, e, hlt, fun i j hi hj => ?_⟩
  obtain ⟨a', e', _, hc'⟩ := h i hi
  rw [e] at e'
  cases e'
  have := (hc' j hj).1
  rw [Nat.add_assoc]
  by_cases h0 : i * m + j = 0
  · rw [h0] at this ⊢; simpa [Addr.add] using this
  · unfold Addr.add at this; rw [if_neg h0] at this; exact this
theorem rdZ_mk {w : World} {m b off n : Nat} {z : Nat → Nat → Int} (h : ∀ i j, i < n → j < m → w.cell? ⟨b, off + (i * m + j), none⟩ = some (.int .i64 (z i j)) ∧ (Lit.int .i64 (z i j)).wf = true) (hb : b < w.heap.size) : RdZ w m (some ⟨b, off, none⟩) n z := fun i hi =>
  ⟨⟨b, off, none⟩, rfl, hb, fun j hj => by
    refine ⟨?_, (h i j hi hj).2⟩
    by_cases h0 : i * m + j = 0
    · have := (h i j hi hj).1
      rw [h0] at this ⊢; simpa [Addr.add] using this
    · unfold Addr.add; rw [if_neg h0]; exact (h i j hi hj).1⟩
theorem rdZ_wf {w : World} {m : Nat} {A : Option Addr} {n : Nat} {z : Nat → Nat → Int} (h : RdZ w m A n z) {i j : Nat} (hi : i < n) (hj : j < m) : -9223372036854775808 ≤ z i j ∧ z i j ≤ 9223372036854775807 := by
  obtain ⟨_, _, _, hc⟩ := h i hi
  exact bounds_i64 (hc j hj).2
theorem rdZ_less {w : World} {m : Nat} {A : Option Addr} {n k : Nat} {z : Nat → Nat → Int} (h : RdZ w m A n z) (hk : k ≤ n) : RdZ w m A k z := fun i hi => h i (by omega)
/-- what a call leaves that has made blocks alone -/
theorem bcell {W w1 : World} (hb : Below W.heap.size W w1) : (∀ b o, b < W.heap.size → w1.cell? ⟨b, o, none⟩ = W.cell? ⟨b, o, none⟩) ∧ (∀ b o, b < W.heap.size → w1.frozen? ⟨b, o, none⟩ = W.frozen? ⟨b, o, none⟩) :=
  ⟨fun b o h => hb.cell (p := ⟨b, o, none⟩) h, fun b o h => hb.frozen (p := ⟨b, o, none⟩) h⟩
end Go.Proofs.YtbjcigkakeffmaaDoor


namespace Go.Proofs.YtbjcigkakeffmaaDoor
open Go.ChangeShapes Go.WideShapes Go.ChangeAt Go.RowKit Go.Joins Go.Deep
set_option linter.unusedVariables false
section
variable {P : Program} {H : Type} {enc : TypeId × Value → H}
/-- a slice of structs of m cells each, each of its shape; nil too -/
def RdV (w : World) (m : Nat) (Sh : Nat → Value → Prop) (A : Option Addr) (n : Nat) (v : Nat → Nat → Value) : Prop :=
  ∀ i, i < n → ∃ a, A = some a ∧ a.block < w.heap.size ∧ ∀ j, j < m → w.cell? (a.add (i * m + j)) = some (v i j) ∧ Sh j (v i j)
theorem RdV.kept {w w' : World} {m : Nat} {Sh : Nat → Value → Prop} {A : Option Addr} {n : Nat} {v : Nat → Nat → Value} (h : RdV w m Sh A n v) (hb : Below w.heap.size w w') : RdV w' m Sh A n v := fun i hi => by
  obtain ⟨a, e, hlt, hc⟩ := h i hi
  exact ⟨a, e, Nat.lt_of_lt_of_le hlt hb.size, fun j hj => ⟨(hb.cell (by rw [block_add]; exact hlt)).trans (hc j hj).1, (hc j hj).2⟩⟩
theorem rdV_drew {w : World} {m : Nat} {Sh : Nat → Value → Prop} {A : Option Addr} {n : Nat} {v : Nat → Nat → Value} (h : RdV w m Sh A n v) : RdV w.drew m Sh A n v := h
theorem RdV.sh {w : World} {m : Nat} {Sh : Nat → Value → Prop} {A : Option Addr} {n : Nat} {v : Nat → Nat → Value} (h : RdV w m Sh A n v) {i j : Nat} (hi : i < n) (hj : j < m) : Sh j (v i j) := by
  obtain ⟨_, _, _, hc⟩ := h i hi
  exact (hc j hj).2
theorem rdV_row {w : World} {m : Nat} {Sh : Nat → Value → Prop} {A : Option Addr} {n : Nat} {v : Nat → Nat → Value} (h : RdV w m Sh A n v) (hm : 0 < m) (hn : 0 < n) :
    ∃ b off, A = some ⟨b, off, none⟩ ∧ b < w.heap.size ∧ ∀ i j, i < n → j < m → w.cell? ⟨b, off + i * m + j, none⟩ = some (v i j) := by
  obtain ⟨a, e, hlt, hc⟩ := h 0 hn
  have hs : a.spot = none := spot_noneZ (by simpa [Addr.add] using (hc 0 hm).1)
  obtain ⟨b, off, sp⟩ := a
  simp only at hs
  subst hs
  refine ⟨b, off, e, hlt, fun i j hi hj => ?_⟩
  obtain ⟨a', e', _, hc'⟩ := h i hi
  rw [e] at e'
  cases e'
  have := (hc' j hj).1
  rw [Nat.add_assoc]
  by_cases h0 : i * m + j = 0
  · rw [h0] at this ⊢; simpa [Addr.add] using this
  · unfold Addr.add at this; rw [if_neg h0] at this; exact this
theorem open_rdV {w : World} {t e : TypeId} {fs : Array Field} {v : Value} {d : DataW H} {ps : List MemPlace} (Sh : Nat → Value → Prop) (ht : P.underlying t = some (.slice e)) (he : P.underlying e = some (.struct fs)) (hone : oneCellFields P fs = true) (hC : P.cellsOf e = fs.size)
    (h0 : 0 < fs.size) (hsh : ∀ (j : Nat) (f : Field), fs[j]? = some f → ∀ (u : Value) (n : Nat) (x : DataW H × List MemPlace), DataW.trod enc P w 0 (fun _ => true) true n f.type [u] = some x → Sh j u)
    (h1 : v.cells.toList = [v]) (h : DataW.Trod enc P w 0 (fun _ => true) true t v d ps) : ∃ A c k vs, v = .slice A k c ∧ k ≤ c ∧ c ≤ maxLen ∧ RdV w fs.size Sh A k vs ∧ (A = none → c = 0) := by
  obtain ⟨n, h⟩ := h
  rw [h1] at h
  rcases open_slice ht h with ⟨h1, _⟩ | ⟨a, len, cap, m, k, D, Pl, hcs, hb, hl, hm, hmm, hx, hi⟩
  · refine ⟨none, 0, 0, fun _ _ => undef, by simpa using h1, by simp, by simp [maxLen], fun i hi => absurd hi (by omega), fun _ => rfl⟩
  · simp only [if_true] at hmm
    refine ⟨some a, cap, len, fun i j => (w.cell? (a.add (i * fs.size + j))).getD undef, by simpa using hcs, hl, hm, fun i hil => ?_, fun e => by cases e⟩
    obtain ⟨cs', hc, ht'⟩ := hi i (by omega)
    rw [hC] at hc
    obtain ⟨ys, n', hn', hy, hlen, hyl, hf⟩ := DataW.trod_struct he ht'
    obtain ⟨_, hcl, hat⟩ := World.cells?_some hc
    have key : ∀ j, j < fs.size → ∃ u : Value, w.cell? (a.add (i * fs.size + j)) = some u ∧ Sh j u := by
      intro j hj
      have hfj : fs[j]? = some fs[j] := Array.getElem?_eq_getElem hj
      obtain ⟨ho, hk⟩ := hone_of hone j _ hfj
      have hcell := hat j hj
      have h1 := hf j _ hfj
      rw [ho, hk] at h1
      have hone' : (cs'.drop j).take 1 = [cs'[j]'(by omega)] := by
        rw [List.drop_eq_getElem_cons (by omega)]
        rfl
      rw [hone'] at h1
      have hys : ys[j]? = some (ys[j]'(by omega)) := List.getElem?_eq_getElem (by omega)
      exact ⟨_, by rw [← Go.Deep.add_add, hcell, List.getElem?_eq_getElem (by omega)], hsh j _ hfj _ _ _ (h1.trans hys)⟩
    refine ⟨a, rfl, ?_, fun j hj => ?_⟩
    · obtain ⟨u, hu, _⟩ := key 0 h0
      have := lt_of_cell hu
      rwa [block_add] at this
    · obtain ⟨u, hu, hw⟩ := key j hj
      refine ⟨?_, ?_⟩
      · show _ = some ((w.cell? (a.add (i * fs.size + j))).getD undef)
        rw [hu]; rfl
      · show Sh j ((w.cell? (a.add (i * fs.size + j))).getD undef)
        rw [hu]; exact hw
/-- the shapes of fields -/
def ShI (u : Value) : Prop := ∃ a, u = .int .i64 a ∧ (Lit.int .i64 a).wf = true
def ShB (u : Value) : Prop := ∃ b, u = .bool b
def ShS (u : Value) : Prop := ∃ A n c, u = .slice A n c ∧ n ≤ c ∧ c ≤ maxLen
theorem sh_int {w : World} {t : TypeId} {n : Nat} {u : Value} {x : DataW H × List MemPlace} (ht : P.underlying t = some (.int .i64)) (h : DataW.trod enc P w 0 (fun _ => true) true n t [u] = some x) : ShI u := trod_i ht h
theorem sh_bool {w : World} {t : TypeId} {n : Nat} {u : Value} {x : DataW H × List MemPlace} (ht : P.underlying t = some .bool) (h : DataW.trod enc P w 0 (fun _ => true) true n t [u] = some x) : ShB u := trod_b ht h
theorem sh_slice {w : World} {t e : TypeId} {n : Nat} {u : Value} {x : DataW H × List MemPlace} (ht : P.underlying t = some (.slice e)) (h : DataW.trod enc P w 0 (fun _ => true) true n t [u] = some x) : ShS u := by
  rcases open_slice ht h with ⟨h1, _⟩ | ⟨a, len, cap, m, k, D, Pl, hcs, hb, hl, hm, hmm, hx, hi⟩
  · exact ⟨none, 0, 0, by simpa using h1, by omega, by simp [maxLen]⟩
  · exact ⟨some a, len, cap, by simpa using hcs, hl, hm⟩
end
/-- a car's fields -/
def shCar : Nat → Value → Prop := fun j u => if j = 4 then ShB u else if j = 5 then ShS u else ShI u
end Go.Proofs.YtbjcigkakeffmaaDoor


namespace Go.Proofs.YtbjcigkakeffmaaDoor
open Go.ChangeShapes Go.WideShapes Go.ChangeAt Go.RowKit Go.Joins Go.Deep
set_option linter.unusedVariables false
section
variable {P : Program} {H : Type} {enc : TypeId × Value → H}
/-- a slice of arrays of m numbers each; nil too -/
def RdK (w : World) (kk : IntKind) (m : Nat) (A : Option Addr) (n : Nat) (z : Nat → Nat → Int) : Prop :=
  ∀ i, i < n → ∃ a, A = some a ∧ a.block < w.heap.size ∧ ∀ j, j < m → w.cell? (a.add (i * m + j)) = some (.int kk (z i j)) ∧ (Lit.int kk (z i j)).wf = true
theorem RdK.kept {w w' : World} {kk : IntKind} {m : Nat} {A : Option Addr} {n : Nat} {z : Nat → Nat → Int} (h : RdK w kk m A n z) (hb : Below w.heap.size w w') : RdK w' kk m A n z := fun i hi => by
  obtain ⟨a, e, hlt, hc⟩ := h i hi
  exact ⟨a, e, Nat.lt_of_lt_of_le hlt hb.size, fun j hj => ⟨(hb.cell (by rw [block_add]; exact hlt)).trans (hc j hj).1, (hc j hj).2⟩⟩
theorem rdK_drew {w : World} {kk : IntKind} {m : Nat} {A : Option Addr} {n : Nat} {z : Nat → Nat → Int} (h : RdK w kk m A n z) : RdK w.drew kk m A n z := h
theorem RdK.wf {w : World} {kk : IntKind} {m : Nat} {A : Option Addr} {n : Nat} {z : Nat → Nat → Int} (h : RdK w kk m A n z) {i j : Nat} (hi : i < n) (hj : j < m) : (Lit.int kk (z i j)).wf = true := by
  obtain ⟨_, _, _, hc⟩ := h i hi
  exact (hc j hj).2
theorem rdK_row {w : World} {kk : IntKind} {m : Nat} {A : Option Addr} {n : Nat} {z : Nat → Nat → Int} (h : RdK w kk m A n z) (hm : 0 < m) (hn : 0 < n) :
    ∃ b off, A = some ⟨b, off, none⟩ ∧ b < w.heap.size ∧ ∀ i j, i < n → j < m → w.cell? ⟨b, off + i * m + j, none⟩ = some (.int kk (z i j)) := by
  obtain ⟨a, e, hlt, hc⟩ := h 0 hn
  have hs : a.spot = none := spot_noneZ (by simpa [Addr.add] using (hc 0 hm).1)
  obtain ⟨b, off, sp⟩ := a
  simp only at hs
  subst hs
  refine ⟨b, off, e, hlt, fun i j hi hj => ?_⟩
  obtain ⟨a', e', _, hc'⟩ := h i hi
  rw [e] at e'
  cases e'
  have := (hc' j hj).1
  rw [Nat.add_assoc]
  by_cases h0 : i * m + j = 0
  · rw [h0] at this ⊢; simpa [Addr.add] using this
  · unfold Addr.add at this; rw [if_neg h0] at this; exact this
theorem trod_rdK {w : World} {t e u : TypeId} {q : Nat} {kk : IntKind} {n : Nat} {v : Value} {x : DataW H × List MemPlace} (ht : P.underlying t = some (.slice e)) (he : P.underlying e = some (.array q u)) (hu : P.underlying u = some (.int kk)) (hc1 : P.cellsOf u = 1) (hC : P.cellsOf e = q)
    (h0 : 0 < q) (h : DataW.trod enc P w 0 (fun _ => true) true n t [v] = some x) : ∃ A c k z, v = .slice A k c ∧ k ≤ c ∧ c ≤ maxLen ∧ RdK w kk q A k z ∧ (A = none → c = 0) := by
  rcases open_slice ht h with ⟨h1, _⟩ | ⟨a, len, cap, m, k, D, Pl, hcs, hb, hl, hm, hmm, hx, hi⟩
  · refine ⟨none, 0, 0, fun _ _ => 0, by simpa using h1, by simp, by simp [maxLen], fun i hi => absurd hi (by omega), fun _ => rfl⟩
  · simp only [if_true] at hmm
    refine ⟨some a, cap, len, fun i j => intOf ((w.cell? (a.add (i * q + j))).getD undef), by simpa using hcs, hl, hm, fun i hil => ?_, fun e => by cases e⟩
    obtain ⟨cs', hc, ht'⟩ := hi i (by omega)
    rw [hC] at hc
    obtain ⟨ys, n', _, hy, _, hylen, hg⟩ := DataW.trod_array he ht'
    obtain ⟨_, hcl, hat⟩ := World.cells?_some hc
    have key : ∀ j, j < q → ∃ z : Int, w.cell? (a.add (i * q + j)) = some (.int kk z) ∧ (Lit.int kk z).wf = true := by
      intro j hj
      have hcell := hat j hj
      have h1 := hg j hj
      rw [hc1, Nat.mul_one] at h1
      have hone' : (cs'.drop j).take 1 = [cs'[j]'(by omega)] := by
        rw [List.drop_eq_getElem_cons (by omega)]
        rfl
      rw [hone', List.getElem?_eq_getElem (by omega)] at h1
      obtain ⟨z, hz, hw⟩ := trod_i_any hu h1
      refine ⟨z, ?_, hw⟩
      rw [← Go.Deep.add_add, hcell, List.getElem?_eq_getElem (by omega), hz]
    refine ⟨a, rfl, ?_, fun j hj => ?_⟩
    · obtain ⟨z, hz, _⟩ := key 0 h0
      have := lt_of_cell hz
      rwa [block_add] at this
    · obtain ⟨z, hz, hw⟩ := key j hj
      refine ⟨?_, ?_⟩
      · show _ = some (Value.int kk (intOf ((w.cell? (a.add (i * q + j))).getD undef)))
        rw [hz]; rfl
      · show (Lit.int kk (intOf ((w.cell? (a.add (i * q + j))).getD undef))).wf = true
        rw [hz]; exact hw
end
end Go.Proofs.YtbjcigkakeffmaaDoor


namespace Go.Proofs.YtbjcigkakeffmaaDoor
open Go.RowKit
set_option linter.unusedVariables false
theorem blk_cell {w : World} {g : Nat} {cs : Array Value} {t : TypeId} (h : w.heap[g]? = some (.cells cs t)) (i : Nat) : w.cell? ⟨g, i, none⟩ = cs[i]? := cell_of_row w g i cs t (0, 0) h
theorem blk_frozen {w : World} {g : Nat} {cs : Array Value} {t : TypeId} (h : w.heap[g]? = some (.cells cs t)) (i : Nat) : w.frozen? ⟨g, i, none⟩ = false := by simp [World.frozen?, h]
/-- block g is just these cells, none frozen -/
def Blk (w : World) (g : Nat) (t : TypeId) (cs : Array Value) : Prop := w.heap[g]? = some (.cells cs t)
theorem Blk.lt {w : World} {g : Nat} {t : TypeId} {cs : Array Value} (h : Blk w g t cs) : g < w.heap.size := by
  rcases Nat.lt_or_ge g w.heap.size with h1 | h1
  · exact h1
  · unfold Blk at h; rw [Array.getElem?_eq_none h1] at h; cases h
theorem Blk.next {w w' : World} {g : Nat} {t : TypeId} {cs : Array Value} (h : Blk w g t cs) (hb : Below w.heap.size w w') : Blk w' g t cs := (hb.block g h.lt).trans h
theorem Blk.draw {w : World} {g : Nat} {t : TypeId} {cs : Array Value} (h : Blk w g t cs) (n : Nat) : Blk (w.drewN n) g t cs := h
theorem Blk.alloc {w : World} {g : Nat} {t : TypeId} {cs : Array Value} (h : Blk w g t cs) (o : Obj) : Blk (w.alloc o) g t cs := (Below.heap_alloc w o g h.lt).trans h
theorem Blk.new (w : World) (cs : Array Value) (t : TypeId) : Blk (w.alloc (.cells cs t)) w.heap.size t cs := heap_alloc_last w _
theorem Blk.cell {w : World} {g : Nat} {t : TypeId} {cs : Array Value} (h : Blk w g t cs) (i : Nat) : w.cell? ⟨g, i, none⟩ = cs[i]? := blk_cell h i
theorem Blk.frozen {w : World} {g : Nat} {t : TypeId} {cs : Array Value} (h : Blk w g t cs) (i : Nat) : w.frozen? ⟨g, i, none⟩ = false := blk_frozen h i
theorem Blk.set {w : World} {g : Nat} {t : TypeId} {cs : Array Value} (h : Blk w g t cs) (i : Nat) (u : Value) : Blk (w.setCell ⟨g, i, none⟩ u) g t (cs.setIfInBounds i u) := by
  unfold Blk at h ⊢
  simp [World.setCell, Array.getElem?_modify, h]
theorem Blk.far {w : World} {g : Nat} {t : TypeId} {cs : Array Value} (h : Blk w g t cs) {p : Addr} (hp : g ≠ p.block) (u : Value) : Blk (w.setCell p u) g t cs := (Below.heap_setCell w p u g hp).trans h
theorem Blk.put2 {w : World} {g : Nat} {t : TypeId} {a b : Value} (h : Blk w g t #[a, b]) (x y : Value) : Blk ((w.setCell ⟨g, 0, none⟩ x).setCell ⟨g, 1, none⟩ y) g t #[x, y] := (h.set 0 x).set 1 y
/-- one new block, and what is behind a call -/
theorem one_blk {w w1 : World} {c : Array Value} {t : TypeId} (hb : Below (w.alloc (.cells c t)).heap.size (w.alloc (.cells c t)) w1) :
    Blk w1 w.heap.size t c ∧ w.heap.size < w1.heap.size ∧ Below w.heap.size w w1 :=
  ⟨(Blk.new w c t).next hb, by have := hb.size; simp at this; omega, ((Below.refl _ _).alloc (Nat.le_refl _) _).trans (hb.mono (by simp))⟩
theorem two_blk {w w1 : World} {c d : Array Value} {t s : TypeId} (hb : Below ((w.alloc (.cells c t)).alloc (.cells d s)).heap.size ((w.alloc (.cells c t)).alloc (.cells d s)) w1) :
    Blk w1 w.heap.size t c ∧ Blk w1 (w.heap.size + 1) s d ∧ w.heap.size + 1 < w1.heap.size ∧ Below w.heap.size w w1 := by
  have h2 := Blk.new (w.alloc (.cells c t)) d s
  simp at h2
  exact ⟨((Blk.new w c t).alloc _).next hb, h2.next hb, by have := hb.size; simp at this; omega, (((Below.refl _ _).alloc (Nat.le_refl _) _).alloc (by simp) _).trans (hb.mono (by simp; omega))⟩
theorem Blk.two {w : World} {g : Nat} {t : TypeId} {a b : Value} (h : Blk w g t #[a, b]) : w.cell? ⟨g, 0, none⟩ = some a ∧ w.cell? ⟨g, 1, none⟩ = some b ∧ w.frozen? ⟨g, 0, none⟩ = false ∧ w.frozen? ⟨g, 1, none⟩ = false :=
  ⟨h.cell 0, h.cell 1, h.frozen 0, h.frozen 1⟩
theorem Blk.three {w : World} {g : Nat} {t : TypeId} {a b c : Value} (h : Blk w g t #[a, b, c]) : w.cell? ⟨g, 0, none⟩ = some a ∧ w.cell? ⟨g, 1, none⟩ = some b ∧ w.cell? ⟨g, 2, none⟩ = some c :=
  ⟨h.cell 0, h.cell 1, h.cell 2⟩
end Go.Proofs.YtbjcigkakeffmaaDoor


namespace Go.Proofs.YtbjcigkakeffmaaDoor
open Go.RowKit
set_option linter.unusedSimpArgs false
set_option linter.unusedVariables false
theorem spot_none {w : World} {a : Addr} {v : Value} (h : w.cell? a = some v) : a.spot = none := by
  cases hs : a.spot with
  | none => rfl
  | some x =>
    unfold World.cell? at h
    split at h
    · simp [hs] at h
    · cases h
/-- a row of numbers that isn't empty: where it begins, and its cells -/
theorem rdI_row {w : World} {k : IntKind} {A : Option Addr} {zs : List Int} (h : RdI w k A zs) (hn : 0 < zs.length) : ∃ b off, A = some ⟨b, off, none⟩ ∧ b < w.heap.size ∧ ∀ i, i < zs.length → w.cell? ⟨b, off + i, none⟩ = some (.int k (zat zs i)) := by
  obtain ⟨a, e, hlt, hc, _⟩ := h 0 hn
  have hs : a.spot = none := spot_none (by simpa [Addr.add] using hc)
  obtain ⟨b, off, sp⟩ := a
  simp only at hs
  subst hs
  refine ⟨b, off, e, hlt, fun i hi => ?_⟩
  obtain ⟨a', e', _, hc', _⟩ := h i hi
  rw [e] at e'
  cases e'
  by_cases h0 : i = 0
  · subst h0; simpa [Addr.add] using hc'
  · simpa [Addr.add, h0] using hc'
theorem rdI_mk {w : World} {k : IntKind} {b off : Nat} {zs : List Int} (h : ∀ i, i < zs.length → w.cell? ⟨b, off + i, none⟩ = some (.int k (zat zs i)) ∧ (Lit.int k (zat zs i)).wf = true) : RdI w k (some ⟨b, off, none⟩) zs := fun i hi => by
  obtain ⟨h1, h2⟩ := h i hi
  refine ⟨⟨b, off, none⟩, rfl, lt_of_cell (a := ⟨b, off + i, none⟩) h1, ?_, h2⟩
  by_cases h0 : i = 0
  · subst h0; simpa [Addr.add] using h1
  · simpa [Addr.add, h0] using h1
theorem rdI_none {w : World} {k : IntKind} {A : Option Addr} {zs : List Int} (h : zs.length = 0) : RdI w k A zs := fun i hi => absurd hi (by omega)
theorem rdI_of_len {w : World} {k : IntKind} {A : Option Addr} {zs : List Int} (h : RdI w k A zs) : zs.length = 0 ∨ ∃ b off, A = some ⟨b, off, none⟩ := by
  by_cases h0 : zs.length = 0
  · exact .inl h0
  · obtain ⟨b, off, e, _⟩ := rdI_row h (by omega); exact .inr ⟨b, off, e⟩
end Go.Proofs.YtbjcigkakeffmaaDoor


namespace Go.Proofs.YtbjcigkakeffmaaDoor
open Go.RowKit
set_option linter.unusedVariables false
/-- the numbers a 0, a 1 .., so many -/
def rowL (a : Nat → Int) (n : Nat) : List Int := (List.range n).map a
theorem rowL_len (a : Nat → Int) (n : Nat) : (rowL a n).length = n := by simp [rowL]
theorem rowL_succ (a : Nat → Int) (n : Nat) : rowL a (n + 1) = rowL a n ++ [a n] := by simp [rowL, List.range_succ]
theorem rowL_at (a : Nat → Int) {n i : Nat} (h : i < n) : zat (rowL a n) i = a i := by
  unfold zat rowL; simp [List.getD_eq_getElem?_getD, h]
theorem rowL_congr {a b : Nat → Int} {n : Nat} (h : ∀ i, i < n → a i = b i) : rowL a n = rowL b n := by
  unfold rowL; exact List.map_congr_left fun i hi => h i (List.mem_range.1 hi)
theorem rowL_set (b : Nat → Int) (k n : Nat) (u : Int) : (rowL b n).set k u = rowL (fun i => if i = k then u else b i) n := by
  apply List.ext_getElem
  · simp [rowL]
  · intro i h1 h2
    simp only [rowL, List.getElem_set, List.getElem_map, List.getElem_range]
    by_cases h : k = i
    · simp [h]
    · simp [h, Ne.symm h]
/-- up to k told by a, from there on by b -/
def mixL (a b : Nat → Int) (k n : Nat) : List Int := rowL (fun i => if i < k then a i else b i) n
theorem mixL_len (a b : Nat → Int) (k n : Nat) : (mixL a b k n).length = n := rowL_len _ _
theorem mixL_zero (a b : Nat → Int) (n : Nat) : mixL a b 0 n = rowL b n := rowL_congr fun i _ => by simp
theorem mixL_full (a b : Nat → Int) (n : Nat) : mixL a b n n = rowL a n := rowL_congr fun i h => by simp [h]
theorem mixL_at (a b : Nat → Int) {k n i : Nat} (h : i < n) : zat (mixL a b k n) i = if i < k then a i else b i := rowL_at _ h
theorem mixL_set (a b : Nat → Int) (k n : Nat) : (mixL a b k n).set k (a k) = mixL a b (k + 1) n := by
  unfold mixL
  rw [rowL_set]
  refine rowL_congr fun i _ => ?_
  by_cases h : i = k
  · subst h; simp
  · rcases Nat.lt_or_ge i k with h1 | h1
    · rw [if_neg h, if_pos h1, if_pos (by omega)]
    · rw [if_neg h, if_neg (by omega), if_neg (by omega)]
theorem zat_get {ys : List Int} {i : Nat} (h : i < ys.length) : ys[i]? = some (zat ys i) := by
  unfold zat; rw [List.getD_eq_getElem?_getD, List.getElem?_eq_getElem h]; simp
theorem ownR_ge {w : World} {base : Nat} {e : TypeId} {size : Nat} {v : Value} {n : Nat} {xs : List Value} (h : w.ownsRow base e size v n xs) {g : Nat} (hg : v.ownBlock = some g) : base ≤ g := (h.lt g hg).1
theorem one_newR {w : World} {v : Value} {t : TypeId} : ∀ (j : Nat) (u : Value), [v][j]? = some u → (w.alloc (.cells #[v] t)).cell? ((⟨w.heap.size, 0, none⟩ : Addr).add j) = some u := by
  intro j u hj
  match j, hj with
  | 0, hj => simp at hj; subst hj; simp [Addr.add]
/-- a row that the call made, as a row that is read -/
theorem ownR_rd {w : World} {base : Nat} {e : TypeId} {v : Value} {k : IntKind} {ys : List Int} (h : w.ownsRow base e 1 v ys.length (ys.map (Value.int k))) (hwf : ∀ i, i < ys.length → (Lit.int k (zat ys i)).wf = true) : ∃ A c, v = .slice A ys.length c ∧ RdI w k A ys := by
  rcases h.2 with ⟨rfl, hn⟩ | ⟨g, cap, cur, rfl, hg, hh, hnc, _, hcs, htake⟩
  · exact ⟨none, 0, by rw [hn], rdI_none hn⟩
  · refine ⟨some ⟨g, 0, none⟩, cap, rfl, rdI_mk fun i hi => ⟨?_, hwf i hi⟩⟩
    have hcl := h.cells (g := g) rfl i (.int k (zat ys i)) (by rw [List.getElem?_map, zat_get hi]; rfl)
    by_cases h0 : i = 0
    · subst h0; simpa [Addr.add] using hcl
    · simpa [Addr.add, h0] using hcl
/-- its head, where it isn't empty -/
theorem ownR_head {w : World} {base : Nat} {e : TypeId} {v : Value} {n : Nat} {xs : List Value} (h : w.ownsRow base e 1 v n xs) (hn : 0 < n) : ∃ g cap, v = .slice (some ⟨g, 0, none⟩) n cap ∧ base ≤ g ∧ n ≤ cap := by
  rcases h.2 with ⟨_, h0⟩ | ⟨g, cap, cur, rfl, hg, hh, hnc, _⟩
  · omega
  · exact ⟨g, cap, rfl, hg, hnc⟩
theorem ownR_cell {w : World} {base : Nat} {e : TypeId} {g cap n : Nat} {k : IntKind} {a : Nat → Int} (h : w.ownsRow base e 1 (.slice (some ⟨g, 0, none⟩) n cap) n ((rowL a n).map (Value.int k))) {i : Nat} (hi : i < n) : w.cell? ⟨g, i, none⟩ = some (.int k (a i)) := by
  rw [h.cellAt i (by omega), List.getElem?_map, zat_get (by rw [rowL_len]; exact hi), rowL_at a hi]; rfl
theorem ownR_cellM {w : World} {base : Nat} {e : TypeId} {g cap n : Nat} {k : IntKind} {a b : Nat → Int} {m : Nat} (h : w.ownsRow base e 1 (.slice (some ⟨g, 0, none⟩) n cap) n ((mixL a b m n).map (Value.int k))) {i : Nat} (hi : i < n) (hm : m ≤ i) : w.cell? ⟨g, i, none⟩ = some (.int k (b i)) := by
  have := ownR_cell (a := fun i => if i < m then a i else b i) h hi
  rw [if_neg (by omega)] at this; exact this
theorem ownR_put {w : World} {base : Nat} {e : TypeId} {g cap n : Nat} {k : IntKind} {a b : Nat → Int} {m : Nat} (h : w.ownsRow base e 1 (.slice (some ⟨g, 0, none⟩) n cap) n ((mixL a b m n).map (Value.int k))) {u : Int} (hu : u = a m) :
    (w.setCell ⟨g, m, none⟩ (.int k u)).ownsRow base e 1 (.slice (some ⟨g, 0, none⟩) n cap) n ((mixL a b (m + 1) n).map (Value.int k)) := by
  subst hu
  have := (h.stored m (.int k (a m))).1
  rw [← List.map_set, mixL_set] at this
  exact this
theorem ownR_len {w : World} {base : Nat} {e : TypeId} {v : Value} {n : Nat} {k : IntKind} {ys : List Int} (h : w.ownsRow base e 1 v n (ys.map (Value.int k))) (hn : ys.length = n) : w.ownsRow base e 1 v ys.length (ys.map (Value.int k)) := by rw [hn]; exact h
end Go.Proofs.YtbjcigkakeffmaaDoor


namespace Go.Proofs.YtbjcigkakeffmaaDoor
open Go.RowKit
set_option linter.unusedSimpArgs false
set_option linter.unusedVariables false
end Go.Proofs.YtbjcigkakeffmaaDoor


namespace Go.Proofs.YtbjcigkakeffmaaDoor
open Go.RowKit
set_option linter.unusedSimpArgs false
set_option linter.unusedVariables false
theorem mkInfo : (Tryd.prog.info? 3).map (fun i => (i.zero, i.size, i.bytes)) = some (some (.int .i64 0), 1, 8) := by kernel_rfl
theorem mkZeros (n : Nat) : (madeCells (Value.cells (.int .i64 0)) (n * 1)).toList = (rowL (fun _ => 0) n).map (Value.int .i64) := by
  rw [Nat.mul_one]
  show (madeCells #[Value.int .i64 0] n).toList = _
  rw [toList_madeCells_one]
  unfold rowL
  rw [List.map_map]
  apply List.ext_getElem
  · simp
  · intro i h1 h2; simp
/-- a row that the call made, and no error -/
def MadeR (n : Nat) (ys : List Int) (w : World) (e : Ending) (w' : World) : Prop := ∃ A c, e = .returned (.tuple #[.slice A n c, .int .i64 0]) ∧ RdI w' .i64 A ys ∧ Below w.heap.size w w'
/-- a row that the call made -/
def MadeS (n : Nat) (ys : List Int) (w : World) (e : Ending) (w' : World) : Prop := ∃ A c, e = .returned (.slice A n c) ∧ RdI w' .i64 A ys ∧ Below w.heap.size w w'
theorem rdI_drew {w : World} {k : IntKind} {A : Option Addr} {zs : List Int} (h : RdI w k A zs) (n : Nat) : RdI (w.drewN n) k A zs := h
theorem mkRow_put {w : World} {base : Nat} {e : TypeId} {g cap n : Nat} {k : IntKind} {a b : Nat → Int} (h : w.ownsRow base e 1 (.slice (some ⟨g, 0, none⟩) n cap) n ((rowL a n).map (Value.int k))) {j : Nat} {u : Int} (hs : (rowL a n).set j u = rowL b n) :
    (w.setCell ⟨g, j, none⟩ (.int k u)).ownsRow base e 1 (.slice (some ⟨g, 0, none⟩) n cap) n ((rowL b n).map (Value.int k)) := by
  have := (h.stored j (.int k u)).1
  rw [← List.map_set, hs] at this
  exact this
theorem mkOwn_below {w w' : World} {base : Nat} {e : TypeId} {size : Nat} {v : Value} {n : Nat} {xs : List Value} (h : w.ownsRow base e size v n xs) (hb : Below w.heap.size w w') : w'.ownsRow base e size v n xs :=
  h.kept (row := none) ⟨hb.os, hb.tape, hb.output, hb.size, fun i hi _ => hb.block i hi⟩ (by cases hv : v.ownBlock <;> simp)
theorem mkSlice {w : World} {base : Nat} {e : TypeId} {v : Value} {n : Nat} {xs : List Value} (h : w.ownsRow base e 1 v n xs) : ∃ (g : Option Addr) (cap : Nat), v = .slice g n cap := by
  rcases h.2 with ⟨rfl, h0⟩ | ⟨g, cap, _, rfl, _⟩
  · exact ⟨none, 0, by rw [h0]⟩
  · exact ⟨_, cap, rfl⟩
end Go.Proofs.YtbjcigkakeffmaaDoor

