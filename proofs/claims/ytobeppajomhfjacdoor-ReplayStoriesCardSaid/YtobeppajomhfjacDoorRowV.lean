/- Slices of structs whose fields are one cell each, of whatever shapes. -/
import Derived.Test.YtobeppajomhfjacDoorRows
import Derived.Test.YtobeppajomhfjacDoorRowKit
import Derived.Test.YtobeppajomhfjacDoorRowS
import Derived.Test.YtobeppajomhfjacDoorRowZ
import Derived.WalkKit
import Derived.ProofKit
import Derived.OpenShut
import Derived.Deep.Slices
import Derived.Deep.Fields
import Derived.ChangeSame
import Derived.Lib.SmallJoins
namespace Go.Proofs.YtobeppajomhfjacDoor
open Go.ChangeShapes Go.WideShapes Go.ChangeAt Go.RowKit Go.Joins Go.Deep
set_option linter.unusedVariables false
section
variable {P : Program} {H : Type} {enc : TypeId × Value → H}
/-- a slice of structs of m cells each, each of its shape; nil too -/
def RdV (w : World) (m : Nat) (Sh : Nat → Value → Prop) (A : Option Addr) (n : Nat) (v : Nat → Nat → Value) : Prop :=
  ∀ i, i < n → ∃ a, A = some a ∧ a.block < w.heap.size ∧ ∀ j, j < m → w.cell? (a.add (i * m + j)) = some (v i j) ∧ Sh j (v i j)
theorem RdV.kept {w w' : World} {m : Nat} {Sh : Nat → Value → Prop} {A : Option Addr} {n : Nat} {v : Nat → Nat → Value} (h : RdV w m Sh A n v) (hb : Below w.heap.size w w') : RdV w' m Sh A n v := fun i hi => by
  obtain ⟨a, e, hlt, hc⟩ := h i hi
  exact ⟨a, e, Nat.lt_of_lt_of_le hlt hb.size, fun j hj => ⟨(hb.cell (by rw [block_add]; exact hlt)).trans (hc j hj).1, (hc j hj).2⟩⟩
theorem rdV_drew {w : World} {m : Nat} {Sh : Nat → Value → Prop} {A : Option Addr} {n : Nat} {v : Nat → Nat → Value} (h : RdV w m Sh A n v) : RdV w.drew m Sh A n v := h
theorem RdV.sh {w : World} {m : Nat} {Sh : Nat → Value → Prop} {A : Option Addr} {n : Nat} {v : Nat → Nat → Value} (h : RdV w m Sh A n v) {i j : Nat} (hi : i < n) (hj : j < m) : Sh j (v i j) := by
  obtain ⟨_, _, _, hc⟩ := h i hi
  exact (hc j hj).2
theorem rdV_row {w : World} {m : Nat} {Sh : Nat → Value → Prop} {A : Option Addr} {n : Nat} {v : Nat → Nat → Value} (h : RdV w m Sh A n v) (hm : 0 < m) (hn : 0 < n) :
    ∃ b off, A = some ⟨b, off, none⟩ ∧ b < w.heap.size ∧ ∀ i j, i < n → j < m → w.cell? ⟨b, off + i * m + j, none⟩ = some (v i j) := by
  obtain ⟨a, e, hlt, hc⟩ := h 0 hn
  have hs : a.spot = none := spot_noneZ (by simpa [Addr.add] using (hc 0 hm).1)
  obtain ⟨b, off, sp⟩ := a
  simp only at hs
  subst hs
  refine ⟨b, off, e, hlt, fun i j hi hj => ?_⟩
  obtain ⟨a', e', _, hc'⟩ := h i hi
  rw [e] at e'
  cases e'
  have := (hc' j hj).1
  rw [Nat.add_assoc]
  by_cases h0 : i * m + j = 0
  · rw [h0] at this ⊢; simpa [Addr.add] using this
  · unfold Addr.add at this; rw [if_neg h0] at this; exact this
theorem open_rdV {w : World} {t e : TypeId} {fs : Array Field} {v : Value} {d : DataW H} {ps : List MemPlace} (Sh : Nat → Value → Prop) (ht : P.underlying t = some (.slice e)) (he : P.underlying e = some (.struct fs)) (hone : oneCellFields P fs = true) (hC : P.cellsOf e = fs.size)
    (h0 : 0 < fs.size) (hsh : ∀ (j : Nat) (f : Field), fs[j]? = some f → ∀ (u : Value) (n : Nat) (x : DataW H × List MemPlace), DataW.trod enc P w 0 (fun _ => true) true n f.type [u] = some x → Sh j u)
    (h1 : v.cells.toList = [v]) (h : DataW.Trod enc P w 0 (fun _ => true) true t v d ps) : ∃ A c k vs, v = .slice A k c ∧ k ≤ c ∧ c ≤ maxLen ∧ RdV w fs.size Sh A k vs ∧ (A = none → c = 0) := by
  obtain ⟨n, h⟩ := h
  rw [h1] at h
  rcases open_slice ht h with ⟨h1, _⟩ | ⟨a, len, cap, m, k, D, Pl, hcs, hb, hl, hm, hmm, hx, hi⟩
  · refine ⟨none, 0, 0, fun _ _ => undef, by simpa using h1, by simp, by simp [maxLen], fun i hi => absurd hi (by omega), fun _ => rfl⟩
  · simp only [if_true] at hmm
    refine ⟨some a, cap, len, fun i j => (w.cell? (a.add (i * fs.size + j))).getD undef, by simpa using hcs, hl, hm, fun i hil => ?_, fun e => by cases e⟩
    obtain ⟨cs', hc, ht'⟩ := hi i (by omega)
    rw [hC] at hc
    obtain ⟨ys, n', hn', hy, hlen, hyl, hf⟩ := DataW.trod_struct he ht'
    obtain ⟨_, hcl, hat⟩ := World.cells?_some hc
    have key : ∀ j, j < fs.size → ∃ u : Value, w.cell? (a.add (i * fs.size + j)) = some u ∧ Sh j u := by
      intro j hj
      have hfj : fs[j]? = some fs[j] := Array.getElem?_eq_getElem hj
      obtain ⟨ho, hk⟩ := hone_of hone j _ hfj
      have hcell := hat j hj
      have h1 := hf j _ hfj
      rw [ho, hk] at h1
      have hone' : (cs'.drop j).take 1 = [cs'[j]'(by omega)] := by
        rw [List.drop_eq_getElem_cons (by omega)]
        rfl
      rw [hone'] at h1
      have hys : ys[j]? = some (ys[j]'(by omega)) := List.getElem?_eq_getElem (by omega)
      exact ⟨_, by rw [← Go.Deep.add_add, hcell, List.getElem?_eq_getElem (by omega)], hsh j _ hfj _ _ _ (h1.trans hys)⟩
    refine ⟨a, rfl, ?_, fun j hj => ?_⟩
    · obtain ⟨u, hu, _⟩ := key 0 h0
      have := lt_of_cell hu
      rwa [block_add] at this
    · obtain ⟨u, hu, hw⟩ := key j hj
      refine ⟨?_, ?_⟩
      · show _ = some ((w.cell? (a.add (i * fs.size + j))).getD undef)
        rw [hu]; rfl
      · show Sh j ((w.cell? (a.add (i * fs.size + j))).getD undef)
        rw [hu]; exact hw
/-- the shapes of fields -/
def ShI (u : Value) : Prop := ∃ a, u = .int .i64 a ∧ (Lit.int .i64 a).wf = true
def ShB (u : Value) : Prop := ∃ b, u = .bool b
def ShS (u : Value) : Prop := ∃ A n c, u = .slice A n c ∧ n ≤ c ∧ c ≤ maxLen
theorem sh_int {w : World} {t : TypeId} {n : Nat} {u : Value} {x : DataW H × List MemPlace} (ht : P.underlying t = some (.int .i64)) (h : DataW.trod enc P w 0 (fun _ => true) true n t [u] = some x) : ShI u := trod_i ht h
theorem sh_bool {w : World} {t : TypeId} {n : Nat} {u : Value} {x : DataW H × List MemPlace} (ht : P.underlying t = some .bool) (h : DataW.trod enc P w 0 (fun _ => true) true n t [u] = some x) : ShB u := trod_b ht h
theorem sh_slice {w : World} {t e : TypeId} {n : Nat} {u : Value} {x : DataW H × List MemPlace} (ht : P.underlying t = some (.slice e)) (h : DataW.trod enc P w 0 (fun _ => true) true n t [u] = some x) : ShS u := by
  rcases open_slice ht h with ⟨h1, _⟩ | ⟨a, len, cap, m, k, D, Pl, hcs, hb, hl, hm, hmm, hx, hi⟩
  · exact ⟨none, 0, 0, by simpa using h1, by omega, by simp [maxLen]⟩
  · exact ⟨some a, len, cap, by simpa using hcs, hl, hm⟩
end
/-- a car's fields -/
def shCar : Nat → Value → Prop := fun j u => if j = 4 then ShB u else if j = 5 then ShS u else ShI u
end Go.Proofs.YtobeppajomhfjacDoor
