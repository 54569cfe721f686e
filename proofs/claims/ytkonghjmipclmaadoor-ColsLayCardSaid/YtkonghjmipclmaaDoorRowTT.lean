/- Rows of rows of texts, which came in. -/
import Derived.Test.YtkonghjmipclmaaDoorRows
import Derived.Test.YtkonghjmipclmaaDoorRowKit
import Derived.Test.YtkonghjmipclmaaDoorRowT
import Derived.WalkKit
import Derived.ProofKit
import Derived.OpenShut
import Derived.Deep.Slices
import Derived.SliceStrings
import Derived.ChangeSame
import Derived.ChangeArms
import Derived.Lib.SmallJoins
namespace Go.Proofs.YtkonghjmipclmaaDoor
open Go.ChangeShapes Go.WideShapes Go.ChangeAt Go.RowKit Go.Joins Go.Deep
set_option linter.unusedVariables false
section
variable {P : Program} {H : Type} {enc : TypeId × Value → H}
theorem trod_rdTT {w : World} {t e f : TypeId} {n : Nat} {u : Value} {x : DataW H × List MemPlace} (ht : P.underlying t = some (.slice e)) (hC1 : P.cellsOf e = 1) (hte : P.underlying e = some (.slice f)) (he : P.underlying f = some .string) (hC : P.cellsOf f = 1)
    (h : DataW.trod enc P w 0 (fun _ => true) true n t [u] = some x) : ∃ (A : Option Addr) (c k : Nat) (B : Nat → Option Addr) (ln cp : Nat → Nat) (tb : Nat → Nat → ByteArray), u = .slice A k c ∧ k ≤ c ∧ c ≤ maxLen ∧ (∀ i, i < k → ∃ b o, A = some ⟨b, o, none⟩ ∧ b < w.heap.size ∧ w.cell? ⟨b, o + i, none⟩ = some (.slice (B i) (ln i) (cp i)) ∧ ln i ≤ 9223372036854775807 ∧ RdT w (B i) (ln i) (tb i)) ∧ (A = none → c = 0) := by
  rcases open_slice ht h with ⟨h1, _⟩ | ⟨a, len, cap, m, k, D, Pl, hcs, hb, hl, hm, hmm, hx, hi⟩
  · exact ⟨none, 0, 0, fun _ => none, fun _ => 0, fun _ => 0, fun _ _ => ByteArray.empty, by simpa using h1, by simp, by simp [maxLen], fun i hi => absurd hi (by omega), fun _ => rfl⟩
  · simp only [if_true] at hmm
    have key : ∀ i, ∃ q : Option Addr × Nat × Nat × (Nat → ByteArray), i < len → (a.block < w.heap.size ∧ w.cell? (a.add i) = some (.slice q.1 q.2.1 q.2.2.1) ∧ q.2.1 ≤ q.2.2.1 ∧ q.2.2.1 ≤ maxLen ∧ RdT w q.1 q.2.1 q.2.2.2) := fun i => by
      by_cases hil : i < len
      · obtain ⟨cs', hc, ht'⟩ := hi i (by omega)
        rw [hC1, Nat.mul_one] at hc
        obtain ⟨_, hcl, hat⟩ := World.cells?_some hc
        have hcell := hat 0 (by omega)
        have e1 : cs' = [cs'[0]'(by omega)] := by
          match cs', hcl with
          | [y], _ => rfl
        rw [e1] at ht'
        obtain ⟨A', c', k', vs, ev, g1, g2, g3, _⟩ := trod_rdT hte he hC ht'
        have hcv : w.cell? (a.add i) = some (.slice A' k' c') := by
          rw [← ev]
          have h2 := hcell
          rw [List.getElem?_eq_getElem (by omega)] at h2
          rw [← h2]
          congr 1
        have hlt := lt_of_cell hcv
        rw [block_add] at hlt
        exact ⟨(A', k', c', vs), fun _ => ⟨hlt, hcv, g1, g2, g3⟩⟩
      · exact ⟨(none, 0, 0, fun _ => ByteArray.empty), fun h => absurd h hil⟩
    obtain ⟨q, hq⟩ := Classical.axiomOfChoice key
    refine ⟨some a, cap, len, fun i => (q i).1, fun i => (q i).2.1, fun i => (q i).2.2.1, fun i => (q i).2.2.2, by simpa using hcs, hl, hm, fun i hil => ?_, fun e => by cases e⟩
    have h0 := hq 0 (by omega)
    have hsp : a.spot = none := spot_noneT (by simpa [Addr.add] using h0.2.1)
    obtain ⟨g1, g2, g3, g4, g5⟩ := hq i hil
    obtain ⟨b, off, sp⟩ := a
    simp only at hsp
    subst hsp
    refine ⟨b, off, rfl, g1, ?_, Nat.le_trans g3 (Nat.le_trans g4 (by decide)), g5⟩
    by_cases e0 : i = 0
    · subst e0; simpa [Addr.add] using g2
    · simpa [Addr.add, e0] using g2
theorem open_rdTT {w : World} {t e f : TypeId} {v : Value} {d : DataW H} {ps : List MemPlace} (ht : P.underlying t = some (.slice e)) (hC1 : P.cellsOf e = 1) (hte : P.underlying e = some (.slice f)) (he : P.underlying f = some .string) (hC : P.cellsOf f = 1)
    (hone : v.cells.toList = [v]) (h : DataW.Trod enc P w 0 (fun _ => true) true t v d ps) : ∃ (A : Option Addr) (c k : Nat) (B : Nat → Option Addr) (ln cp : Nat → Nat) (tb : Nat → Nat → ByteArray), v = .slice A k c ∧ k ≤ c ∧ c ≤ maxLen ∧ (∀ i, i < k → ∃ b o, A = some ⟨b, o, none⟩ ∧ b < w.heap.size ∧ w.cell? ⟨b, o + i, none⟩ = some (.slice (B i) (ln i) (cp i)) ∧ ln i ≤ 9223372036854775807 ∧ RdT w (B i) (ln i) (tb i)) ∧ (A = none → c = 0) := by
  obtain ⟨n, h⟩ := h
  rw [hone] at h
  exact trod_rdTT ht hC1 hte he hC h
end
end Go.Proofs.YtkonghjmipclmaaDoor
