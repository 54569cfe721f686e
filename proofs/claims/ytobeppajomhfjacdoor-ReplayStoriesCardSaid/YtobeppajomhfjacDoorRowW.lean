/- Rows of rows: slices of slices of structs of one-cell fields, which came in. -/
import Derived.Test.YtobeppajomhfjacDoorRows
import Derived.Test.YtobeppajomhfjacDoorRowKit
import Derived.Test.YtobeppajomhfjacDoorRowS
import Derived.Test.YtobeppajomhfjacDoorRowZ
import Derived.Test.YtobeppajomhfjacDoorRowV
import Derived.WalkKit
import Derived.ProofKit
import Derived.OpenShut
import Derived.Deep.Slices
import Derived.Deep.Fields
import Derived.ChangeSame
import Derived.ChangeArms
import Derived.Lib.SmallJoins
namespace Go.Proofs.YtobeppajomhfjacDoor
open Go.ChangeShapes Go.WideShapes Go.ChangeAt Go.RowKit Go.Joins Go.Deep
set_option linter.unusedVariables false
section
variable {P : Program} {H : Type} {enc : TypeId × Value → H}
/-- a field, or an element, that is a slice of structs of one-cell fields -/
theorem trod_rdV {w : World} {t e : TypeId} {fs : Array Field} {n : Nat} {v : Value} {x : DataW H × List MemPlace} (Sh : Nat → Value → Prop) (ht : P.underlying t = some (.slice e)) (he : P.underlying e = some (.struct fs)) (hone : oneCellFields P fs = true) (hC : P.cellsOf e = fs.size)
    (h0 : 0 < fs.size) (hsh : ∀ (j : Nat) (f : Field), fs[j]? = some f → ∀ (u : Value) (n : Nat) (x : DataW H × List MemPlace), DataW.trod enc P w 0 (fun _ => true) true n f.type [u] = some x → Sh j u)
    (h : DataW.trod enc P w 0 (fun _ => true) true n t [v] = some x) : ∃ A c k vs, v = .slice A k c ∧ k ≤ c ∧ c ≤ maxLen ∧ RdV w fs.size Sh A k vs ∧ (A = none → c = 0) := by
  rcases open_slice ht h with ⟨h1, _⟩ | ⟨a, len, cap, m, k, D, Pl, hcs, hb, hl, hm, hmm, hx, hi⟩
  · refine ⟨none, 0, 0, fun _ _ => undef, by simpa using h1, by simp, by simp [maxLen], fun i hi => absurd hi (by omega), fun _ => rfl⟩
  · simp only [if_true] at hmm
    refine ⟨some a, cap, len, fun i j => (w.cell? (a.add (i * fs.size + j))).getD undef, by simpa using hcs, hl, hm, fun i hil => ?_, fun e => by cases e⟩
    obtain ⟨cs', hc, ht'⟩ := hi i (by omega)
    rw [hC] at hc
    obtain ⟨ys, n', hn', hy, hlen, hyl, hf⟩ := DataW.trod_struct he ht'
    obtain ⟨_, hcl, hat⟩ := World.cells?_some hc
    have key : ∀ j, j < fs.size → ∃ u : Value, w.cell? (a.add (i * fs.size + j)) = some u ∧ Sh j u := by
      intro j hj
      have hfj : fs[j]? = some fs[j] := Array.getElem?_eq_getElem hj
      obtain ⟨ho, hk⟩ := hone_of hone j _ hfj
      have hcell := hat j hj
      have h1 := hf j _ hfj
      rw [ho, hk] at h1
      have hone' : (cs'.drop j).take 1 = [cs'[j]'(by omega)] := by
        rw [List.drop_eq_getElem_cons (by omega)]
        rfl
      rw [hone'] at h1
      have hys : ys[j]? = some (ys[j]'(by omega)) := List.getElem?_eq_getElem (by omega)
      exact ⟨_, by rw [← Go.Deep.add_add, hcell, List.getElem?_eq_getElem (by omega)], hsh j _ hfj _ _ _ (h1.trans hys)⟩
    refine ⟨a, rfl, ?_, fun j hj => ?_⟩
    · obtain ⟨u, hu, _⟩ := key 0 h0
      have := lt_of_cell hu
      rwa [block_add] at this
    · obtain ⟨u, hu, hw⟩ := key j hj
      refine ⟨?_, ?_⟩
      · show _ = some ((w.cell? (a.add (i * fs.size + j))).getD undef)
        rw [hu]; rfl
      · show Sh j ((w.cell? (a.add (i * fs.size + j))).getD undef)
        rw [hu]; exact hw
/-- a slice of slices: where each lies, how long it is, what it may hold, its fields -/
def RdW (w : World) (m : Nat) (Sh : Nat → Value → Prop) (A : Option Addr) (n : Nat) (B : Nat → Option Addr) (ln cp : Nat → Nat) (v : Nat → Nat → Nat → Value) : Prop :=
  ∀ i, i < n → ∃ a, A = some a ∧ a.block < w.heap.size ∧ w.cell? (a.add i) = some (.slice (B i) (ln i) (cp i)) ∧ ln i ≤ cp i ∧ cp i ≤ maxLen ∧ RdV w m Sh (B i) (ln i) (v i)
theorem RdW.kept {w w' : World} {m : Nat} {Sh : Nat → Value → Prop} {A : Option Addr} {n : Nat} {B : Nat → Option Addr} {ln cp : Nat → Nat} {v : Nat → Nat → Nat → Value} (h : RdW w m Sh A n B ln cp v) (hb : Below w.heap.size w w') : RdW w' m Sh A n B ln cp v := fun i hi => by
  obtain ⟨a, e, hlt, hc, h1, h2, h3⟩ := h i hi
  exact ⟨a, e, Nat.lt_of_lt_of_le hlt hb.size, (hb.cell (by rw [block_add]; exact hlt)).trans hc, h1, h2, h3.kept hb⟩
theorem rdW_row {w : World} {m : Nat} {Sh : Nat → Value → Prop} {A : Option Addr} {n : Nat} {B : Nat → Option Addr} {ln cp : Nat → Nat} {v : Nat → Nat → Nat → Value} (h : RdW w m Sh A n B ln cp v) (hn : 0 < n) :
    ∃ b off, A = some ⟨b, off, none⟩ ∧ b < w.heap.size ∧ ∀ i, i < n → w.cell? ⟨b, off + i, none⟩ = some (.slice (B i) (ln i) (cp i)) := by
  obtain ⟨a, e, hlt, hc, _⟩ := h 0 hn
  have hs : a.spot = none := spot_noneZ (by simpa [Addr.add] using hc)
  obtain ⟨b, off, sp⟩ := a
  simp only at hs
  subst hs
  refine ⟨b, off, e, hlt, fun i hi => ?_⟩
  obtain ⟨a', e', _, hc', _⟩ := h i hi
  rw [e] at e'
  cases e'
  by_cases h0 : i = 0
  · subst h0; simpa [Addr.add] using hc'
  · simpa [Addr.add, h0] using hc'
theorem rdW_at {w : World} {m : Nat} {Sh : Nat → Value → Prop} {A : Option Addr} {n : Nat} {B : Nat → Option Addr} {ln cp : Nat → Nat} {v : Nat → Nat → Nat → Value} (h : RdW w m Sh A n B ln cp v) {i : Nat} (hi : i < n) : ln i ≤ cp i ∧ cp i ≤ maxLen ∧ RdV w m Sh (B i) (ln i) (v i) := by
  obtain ⟨_, _, _, _, h1, h2, h3⟩ := h i hi
  exact ⟨h1, h2, h3⟩
theorem trod_rdW {w : World} {t e f : TypeId} {fs : Array Field} {n : Nat} {u : Value} {x : DataW H × List MemPlace} (Sh : Nat → Value → Prop) (ht : P.underlying t = some (.slice e)) (hC1 : P.cellsOf e = 1) (hte : P.underlying e = some (.slice f)) (he : P.underlying f = some (.struct fs)) (hone : oneCellFields P fs = true) (hC : P.cellsOf f = fs.size)
    (h0 : 0 < fs.size) (hsh : ∀ (j : Nat) (g : Field), fs[j]? = some g → ∀ (u : Value) (n : Nat) (x : DataW H × List MemPlace), DataW.trod enc P w 0 (fun _ => true) true n g.type [u] = some x → Sh j u)
    (h : DataW.trod enc P w 0 (fun _ => true) true n t [u] = some x) : ∃ A c k B ln cp v, u = .slice A k c ∧ k ≤ c ∧ c ≤ maxLen ∧ RdW w fs.size Sh A k B ln cp v ∧ (A = none → c = 0) := by
  rcases open_slice ht h with ⟨h1, _⟩ | ⟨a, len, cap, m, k, D, Pl, hcs, hb, hl, hm, hmm, hx, hi⟩
  · exact ⟨none, 0, 0, fun _ => none, fun _ => 0, fun _ => 0, fun _ _ _ => undef, by simpa using h1, by simp, by simp [maxLen], fun i hi => absurd hi (by omega), fun _ => rfl⟩
  · simp only [if_true] at hmm
    have key : ∀ i, ∃ q : Option Addr × Nat × Nat × (Nat → Nat → Value), i < len → (a.block < w.heap.size ∧ w.cell? (a.add i) = some (.slice q.1 q.2.1 q.2.2.1) ∧ q.2.1 ≤ q.2.2.1 ∧ q.2.2.1 ≤ maxLen ∧ RdV w fs.size Sh q.1 q.2.1 q.2.2.2) := fun i => by
      by_cases hil : i < len
      · obtain ⟨cs', hc, ht'⟩ := hi i (by omega)
        rw [hC1, Nat.mul_one] at hc
        obtain ⟨_, hcl, hat⟩ := World.cells?_some hc
        have hcell := hat 0 (by omega)
        have e1 : cs' = [cs'[0]'(by omega)] := by
          match cs', hcl with
          | [y], _ => rfl
        rw [e1] at ht'
        obtain ⟨A', c', k', vs, ev, g1, g2, g3, _⟩ := trod_rdV Sh hte he hone hC h0 hsh ht'
        have hcv : w.cell? (a.add i) = some (.slice A' k' c') := by
          rw [← ev]
          have h2 := hcell
          rw [List.getElem?_eq_getElem (by omega)] at h2
          rw [← h2]
          congr 1
        have hlt := lt_of_cell hcv
        rw [block_add] at hlt
        exact ⟨(A', k', c', vs), fun _ => ⟨hlt, hcv, g1, g2, g3⟩⟩
      · exact ⟨(none, 0, 0, fun _ _ => undef), fun h => absurd h hil⟩
    obtain ⟨q, hq⟩ := Classical.axiomOfChoice key
    refine ⟨some a, cap, len, fun i => (q i).1, fun i => (q i).2.1, fun i => (q i).2.2.1, fun i => (q i).2.2.2, by simpa using hcs, hl, hm, fun i hil => ?_, fun e => by cases e⟩
    obtain ⟨g1, g2, g3, g4, g5⟩ := hq i hil
    exact ⟨a, rfl, g1, g2, g3, g4, g5⟩
end
/-- a leg's fields -/
def shLeg : Nat → Value → Prop := fun j u => if j = 3 then ShB u else ShI u
theorem leg_at {w : World} {A : Option Addr} {n : Nat} {v : Nat → Nat → Value} (h : RdV w 4 shLeg A n v) {i : Nat} (hi : i < n) :
    ∃ (t p d : Int) (b : Bool), v i 0 = .int .i64 t ∧ v i 1 = .int .i64 p ∧ v i 2 = .int .i64 d ∧ v i 3 = .bool b ∧ (Lit.int .i64 t).wf = true ∧ (Lit.int .i64 p).wf = true ∧ (Lit.int .i64 d).wf = true := by
  obtain ⟨t, e0, w0⟩ : ShI (v i 0) := h.sh (j := 0) hi (by omega)
  obtain ⟨p, e1, w1⟩ : ShI (v i 1) := h.sh (j := 1) hi (by omega)
  obtain ⟨d, e2, w2⟩ : ShI (v i 2) := h.sh (j := 2) hi (by omega)
  obtain ⟨b, e3⟩ : ShB (v i 3) := h.sh (j := 3) hi (by omega)
  exact ⟨t, p, d, b, e0, e1, e2, e3, w0, w1, w2⟩
end Go.Proofs.YtobeppajomhfjacDoor
