/- Slices of arrays of numbers of any kind, read in an old world. -/
import Derived.Test.YteebeiflipfbkaaDoorRows
import Derived.Test.YteebeiflipfbkaaDoorRowKit
import Derived.Test.YteebeiflipfbkaaDoorRowS
import Derived.Test.YteebeiflipfbkaaDoorRowZ
import Derived.WalkKit
import Derived.ProofKit
import Derived.OpenShut
import Derived.Deep.Slices
import Derived.Deep.Fields
import Derived.ChangeSame
import Derived.Lib.SmallJoins
namespace Go.Proofs.YteebeiflipfbkaaDoor
open Go.ChangeShapes Go.WideShapes Go.ChangeAt Go.RowKit Go.Joins Go.Deep
set_option linter.unusedVariables false
section
variable {P : Program} {H : Type} {enc : TypeId × Value → H}
/-- a slice of arrays of m numbers each; nil too -/
def RdK (w : World) (kk : IntKind) (m : Nat) (A : Option Addr) (n : Nat) (z : Nat → Nat → Int) : Prop :=
  ∀ i, i < n → ∃ a, A = some a ∧ a.block < w.heap.size ∧ ∀ j, j < m → w.cell? (a.add (i * m + j)) = some (.int kk (z i j)) ∧ (Lit.int kk (z i j)).wf = true
theorem RdK.kept {w w' : World} {kk : IntKind} {m : Nat} {A : Option Addr} {n : Nat} {z : Nat → Nat → Int} (h : RdK w kk m A n z) (hb : Below w.heap.size w w') : RdK w' kk m A n z := fun i hi => by
  obtain ⟨a, e, hlt, hc⟩ := h i hi
  exact ⟨a, e, Nat.lt_of_lt_of_le hlt hb.size, fun j hj => ⟨(hb.cell (by rw [block_add]; exact hlt)).trans (hc j hj).1, (hc j hj).2⟩⟩
theorem rdK_drew {w : World} {kk : IntKind} {m : Nat} {A : Option Addr} {n : Nat} {z : Nat → Nat → Int} (h : RdK w kk m A n z) : RdK w.drew kk m A n z := h
theorem RdK.wf {w : World} {kk : IntKind} {m : Nat} {A : Option Addr} {n : Nat} {z : Nat → Nat → Int} (h : RdK w kk m A n z) {i j : Nat} (hi : i < n) (hj : j < m) : (Lit.int kk (z i j)).wf = true := by
  obtain ⟨_, _, _, hc⟩ := h i hi
  exact (hc j hj).2
theorem rdK_row {w : World} {kk : IntKind} {m : Nat} {A : Option Addr} {n : Nat} {z : Nat → Nat → Int} (h : RdK w kk m A n z) (hm : 0 < m) (hn : 0 < n) :
    ∃ b off, A = some ⟨b, off, none⟩ ∧ b < w.heap.size ∧ ∀ i j, i < n → j < m → w.cell? ⟨b, off + i * m + j, none⟩ = some (.int kk (z i j)) := by
  obtain ⟨a, e, hlt, hc⟩ := h 0 hn
  have hs : a.spot = none := spot_noneZ (by simpa [Addr.add] using (hc 0 hm).1)
  obtain ⟨b, off, sp⟩ := a
  simp only at hs
  subst hs
  refine ⟨b, off, e, hlt, fun i j hi hj => ?_⟩
  obtain ⟨a', e', _, hc'⟩ := h i hi
  rw [e] at e'
  cases e'
  have := (hc' j hj).1
  rw [Nat.add_assoc]
  by_cases h0 : i * m + j = 0
  · rw [h0] at this ⊢; simpa [Addr.add] using this
  · unfold Addr.add at this; rw [if_neg h0] at this; exact this
theorem trod_rdK {w : World} {t e u : TypeId} {q : Nat} {kk : IntKind} {n : Nat} {v : Value} {x : DataW H × List MemPlace} (ht : P.underlying t = some (.slice e)) (he : P.underlying e = some (.array q u)) (hu : P.underlying u = some (.int kk)) (hc1 : P.cellsOf u = 1) (hC : P.cellsOf e = q)
    (h0 : 0 < q) (h : DataW.trod enc P w 0 (fun _ => true) true n t [v] = some x) : ∃ A c k z, v = .slice A k c ∧ k ≤ c ∧ c ≤ maxLen ∧ RdK w kk q A k z ∧ (A = none → c = 0) := by
  rcases open_slice ht h with ⟨h1, _⟩ | ⟨a, len, cap, m, k, D, Pl, hcs, hb, hl, hm, hmm, hx, hi⟩
  · refine ⟨none, 0, 0, fun _ _ => 0, by simpa using h1, by simp, by simp [maxLen], fun i hi => absurd hi (by omega), fun _ => rfl⟩
  · simp only [if_true] at hmm
    refine ⟨some a, cap, len, fun i j => intOf ((w.cell? (a.add (i * q + j))).getD undef), by simpa using hcs, hl, hm, fun i hil => ?_, fun e => by cases e⟩
    obtain ⟨cs', hc, ht'⟩ := hi i (by omega)
    rw [hC] at hc
    obtain ⟨ys, n', _, hy, _, hylen, hg⟩ := DataW.trod_array he ht'
    obtain ⟨_, hcl, hat⟩ := World.cells?_some hc
    have key : ∀ j, j < q → ∃ z : Int, w.cell? (a.add (i * q + j)) = some (.int kk z) ∧ (Lit.int kk z).wf = true := by
      intro j hj
      have hcell := hat j hj
      have h1 := hg j hj
      rw [hc1, Nat.mul_one] at h1
      have hone' : (cs'.drop j).take 1 = [cs'[j]'(by omega)] := by
        rw [List.drop_eq_getElem_cons (by omega)]
        rfl
      rw [hone', List.getElem?_eq_getElem (by omega)] at h1
      obtain ⟨z, hz, hw⟩ := trod_i_any hu h1
      refine ⟨z, ?_, hw⟩
      rw [← Go.Deep.add_add, hcell, List.getElem?_eq_getElem (by omega), hz]
    refine ⟨a, rfl, ?_, fun j hj => ?_⟩
    · obtain ⟨z, hz, _⟩ := key 0 h0
      have := lt_of_cell hz
      rwa [block_add] at this
    · obtain ⟨z, hz, hw⟩ := key j hj
      refine ⟨?_, ?_⟩
      · show _ = some (Value.int kk (intOf ((w.cell? (a.add (i * q + j))).getD undef)))
        rw [hz]; rfl
      · show (Lit.int kk (intOf ((w.cell? (a.add (i * q + j))).getD undef))).wf = true
        rw [hz]; exact hw
end
end Go.Proofs.YteebeiflipfbkaaDoor
