/- Contracts of the document's sets: Items. -/
import Derived.Test.YteebeiflipfbkaaDoorRows
import Derived.Test.YteebeiflipfbkaaDoorRowKit
import Derived.Test.YteebeiflipfbkaaDoorSlicesEq
import Derived.Test.YteebeiflipfbkaaDoorRowL
import Derived.Test.YteebeiflipfbkaaDoorMakeI
import Derived.Test.YteebeiflipfbkaaDoorBlocks
import Derived.Test.YteebeiflipfbkaaDoorBitsMath
import Derived.Test.YteebeiflipfbkaaDoorBitsA2
import Derived.Test.YteebeiflipfbkaaDoorBitsD
import Derived.Test.YteebeiflipfbkaaDoorBitsE
import Derived.Test.YteebeiflipfbkaaDoorBitsG
import Derived.WalkKit
import Derived.IntWalk
import Derived.Lib.Hide
import Derived.WalkSpells
import Derived.WalkLawsBesides
import Derived.Laws.CopyOwn
import Derived.Laws.MakeOwn
import Derived.Laws.OwnMore
import Derived.OwnWalk
import Derived.Deep.WholeRow
import Derived.Deep.QuietTactic
import Derived.Deep.LoopGhost
import Derived.BigQuiet
namespace Go.Proofs.YteebeiflipfbkaaDoor
open Go.RowKit
set_option linter.unusedSimpArgs false
set_option linter.unusedVariables false
/-- the numbers of a set below k, rising -/
def itL (F : Nat → Bool) : Nat → List Int
  | 0 => []
  | k + 1 => if F k then itL F k ++ [(k : Int)] else itL F k
theorem itL_no {F : Nat → Bool} {k : Nat} (h : F k = false) : itL F (k + 1) = itL F k := by
  show (if F k then _ else _) = _
  rw [h]; rfl
theorem itL_yes {F : Nat → Bool} {k : Nat} (h : F k = true) : itL F (k + 1) = itL F k ++ [(k : Int)] := by
  show (if F k then _ else _) = _
  rw [h]; rfl
theorem itL_len (F : Nat → Bool) : ∀ k, (itL F k).length ≤ k
  | 0 => Nat.le_refl _
  | k + 1 => by
    have := itL_len F k
    unfold itL
    split
    · rw [List.length_append, List.length_singleton]; omega
    · omega
theorem itL_mem (F : Nat → Bool) (z : Int) : ∀ k, z ∈ itL F k ↔ ∃ m : Nat, m < k ∧ F m = true ∧ z = m
  | 0 => by simp [itL]
  | k + 1 => by
    unfold itL
    have ih := itL_mem F z k
    split
    · rename_i h
      rw [List.mem_append, ih, List.mem_singleton]
      constructor
      · rintro (⟨m, h1, h2, h3⟩ | h3)
        · exact ⟨m, by omega, h2, h3⟩
        · exact ⟨k, by omega, h, h3⟩
      · rintro ⟨m, h1, h2, h3⟩
        by_cases e : m = k
        · subst e; exact .inr h3
        · exact .inl ⟨m, by omega, h2, h3⟩
    · rename_i h
      rw [ih]
      constructor
      · rintro ⟨m, h1, h2, h3⟩; exact ⟨m, by omega, h2, h3⟩
      · rintro ⟨m, h1, h2, h3⟩
        by_cases e : m = k
        · subst e; exact absurd h2 h
        · exact ⟨m, by omega, h2, h3⟩
theorem zat_mem {zs : List Int} {i : Nat} (h : i < zs.length) : zat zs i ∈ zs := by
  have := zat_get h
  exact List.mem_of_getElem? this
theorem mem_zat {zs : List Int} {z : Int} (h : z ∈ zs) : ∃ i, i < zs.length ∧ zat zs i = z := by
  obtain ⟨i, hi, e⟩ := List.mem_iff_getElem.1 h
  refine ⟨i, hi, ?_⟩
  have := zat_get hi
  rw [List.getElem?_eq_getElem hi] at this
  exact (Option.some.inj this).symm.trans e
theorem itL_bd (F : Nat → Bool) (k i : Nat) (h : i < (itL F k).length) : 0 ≤ zat (itL F k) i ∧ zat (itL F k) i < k := by
  obtain ⟨m, h1, _, h3⟩ := (itL_mem F _ k).1 (zat_mem h)
  omega
theorem itL_wf (F : Nat → Bool) (k : Nat) (hk : k ≤ 128) : ∀ i, i < (itL F k).length → (Lit.int .i64 (zat (itL F k) i)).wf = true := fun i hi => by
  have := itL_bd F k i hi
  exact WalkArith.wf_i64 (by omega)
/-- the numbers so far, in the loop -/
def RIt (F : Nat → Bool) (k : Nat) (v : Value) (X0 wr : World) : Prop := wr.ownsRow X0.heap.size 3 1 v (itL F k).length ((itL F k).map (Value.int .i64)) ∧ Below X0.heap.size X0 wr
end Go.Proofs.YteebeiflipfbkaaDoor
