/- A slice of structs of numbers: where it begins, and its cells; what stays. -/
import Derived.Test.YtmnildjcnpfddaaDoorRows
import Derived.Test.YtmnildjcnpfddaaDoorRowKit
import Derived.Test.YtmnildjcnpfddaaDoorRowS
import Derived.WalkKit
namespace Go.Proofs.YtmnildjcnpfddaaDoor
open Go.RowKit
set_option linter.unusedVariables false
theorem spot_noneZ {w : World} {a : Addr} {v : Value} (h : w.cell? a = some v) : a.spot = none := by
  obtain ⟨b, o, s⟩ := a
  cases s with
  | none => rfl
  | some s => unfold World.cell? at h; split at h <;> simp_all
theorem rdZ_row {w : World} {m : Nat} {A : Option Addr} {n : Nat} {z : Nat → Nat → Int} (h : RdZ w m A n z) (hm : 0 < m) (hn : 0 < n) :
    ∃ b off, A = some ⟨b, off, none⟩ ∧ b < w.heap.size ∧ ∀ i j, i < n → j < m → w.cell? ⟨b, off + i * m + j, none⟩ = some (.int .i64 (z i j)) := by
  obtain ⟨a, e, hlt, hc⟩ := h 0 hn
  have hs : a.spot = none := spot_noneZ (by simpa [Addr.add] using (hc 0 hm).1)
  obtain ⟨b, off, sp⟩ := a
  simp only at hs
  subst hs
  refine ⟨b, off, e, hlt, fun i j hi hj => ?_⟩
  obtain ⟨a', e', _, hc'⟩ := h i hi
  rw [e] at e'
  cases e'
  have := (hc' j hj).1
  rw [Nat.add_assoc]
  by_cases h0 : i * m + j = 0
  · rw [h0] at this ⊢; simpa [Addr.add] using this
  · unfold Addr.add at this; rw [if_neg h0] at this; exact this
theorem rdZ_mk {w : World} {m b off n : Nat} {z : Nat → Nat → Int} (h : ∀ i j, i < n → j < m → w.cell? ⟨b, off + (i * m + j), none⟩ = some (.int .i64 (z i j)) ∧ (Lit.int .i64 (z i j)).wf = true) (hb : b < w.heap.size) : RdZ w m (some ⟨b, off, none⟩) n z := fun i hi =>
  ⟨⟨b, off, none⟩, rfl, hb, fun j hj => by
    refine ⟨?_, (h i j hi hj).2⟩
    by_cases h0 : i * m + j = 0
    · have := (h i j hi hj).1
      rw [h0] at this ⊢; simpa [Addr.add] using this
    · unfold Addr.add; rw [if_neg h0]; exact (h i j hi hj).1⟩
theorem rdZ_wf {w : World} {m : Nat} {A : Option Addr} {n : Nat} {z : Nat → Nat → Int} (h : RdZ w m A n z) {i j : Nat} (hi : i < n) (hj : j < m) : -9223372036854775808 ≤ z i j ∧ z i j ≤ 9223372036854775807 := by
  obtain ⟨_, _, _, hc⟩ := h i hi
  exact bounds_i64 (hc j hj).2
theorem rdZ_less {w : World} {m : Nat} {A : Option Addr} {n k : Nat} {z : Nat → Nat → Int} (h : RdZ w m A n z) (hk : k ≤ n) : RdZ w m A k z := fun i hi => h i (by omega)
/-- what a call leaves that has made blocks alone -/
theorem bcell {W w1 : World} (hb : Below W.heap.size W w1) : (∀ b o, b < W.heap.size → w1.cell? ⟨b, o, none⟩ = W.cell? ⟨b, o, none⟩) ∧ (∀ b o, b < W.heap.size → w1.frozen? ⟨b, o, none⟩ = W.frozen? ⟨b, o, none⟩) :=
  ⟨fun b o h => hb.cell (p := ⟨b, o, none⟩) h, fun b o h => hb.frozen (p := ⟨b, o, none⟩) h⟩
end Go.Proofs.YtmnildjcnpfddaaDoor
