/- Contracts of digits.Read at texts of numbers; of strconv.FormatUint at a small number; of the law's alive. -/
import Derived.Test.YtkonghjmipclmaaDoorRows
import Derived.Test.YtkonghjmipclmaaDoorRowKit
import Derived.Test.YtkonghjmipclmaaDoorShelf
import Derived.Test.YtkonghjmipclmaaDoorNumsMath
import Derived.Test.YtkonghjmipclmaaDoorNumsA
import Derived.Test.YtkonghjmipclmaaDoorNumsB
import Derived.Test.YtkonghjmipclmaaDoorDigA
import Derived.Test.YtkonghjmipclmaaDoorDigB
import Derived.Test.YtkonghjmipclmaaDoorTab
import Derived.Test.YtkonghjmipclmaaDoorDigMath
import Derived.Test.YtkonghjmipclmaaDoorDigC
import Derived.WalkKit
import Derived.IntWalk
import Derived.Lib.Hide
import Derived.Lib.ItoaLen
import Derived.Lib.ItoaMem
import Derived.WalkSpells
import Derived.WalkLawsBesides
import Derived.Laws.IdiomStrings
import Derived.Laws.StructEq
import Derived.Deep.QuietTactic
import Derived.BigQuiet
namespace Go.Proofs.YtkonghjmipclmaaDoor
open Go.RowKit Go.Sort
set_option linter.unusedSimpArgs false
set_option linter.unusedVariables false
/-- bytes as a string -/
def bL (L : List UInt8) : ByteArray := ByteArray.mk L.toArray
theorem bL_size (L : List UInt8) : (bL L).size = L.length := by show L.toArray.size = _; simp
theorem bL_list (L : List UInt8) : (bL L).toList = L := by rw [ByteArray.toList_eq]; rfl
theorem bL_at (L : List UInt8) (k : Nat) (h : k < (bL L).size) (h' : k < L.length) : (bL L)[k]'h = L[k]'h' := rfl
theorem dig_at {L : List UInt8} (hD : AllD L) : ∀ k (h : k < (bL L).size), 48 ≤ ((bL L)[k]'h).toNat ∧ ((bL L)[k]'h).toNat ≤ 57 := by
  intro k h
  have h' : k < L.length := by rw [← bL_size]; exact h
  rw [bL_at L k h h']
  exact hD _ (List.getElem_mem h')
theorem take_val {L : List UInt8} {k : Nat} (h : k < L.length) : dval (L.take (k + 1)) = 10 * dval (L.take k) + ((L[k]'h).toNat - 48) := by
  rw [List.take_add_one, List.getElem?_eq_getElem h]
  exact dval_snoc _ _
theorem take_le (L : List UInt8) : ∀ d k, k + d = L.length → dval (L.take k) ≤ dval L
  | 0, k, h => by rw [show L.take k = L from List.take_of_length_le (by omega)]; exact Nat.le_refl _
  | d + 1, k, h => by
    have h1 := take_le L d (k + 1) (by omega)
    rw [take_val (show k < L.length by omega)] at h1
    omega
theorem pre_no {L : List UInt8} (h : AllD L) : Lib.hasPrefix L [45] = false ∧ Lib.trimPrefix L [45] = L := by
  have e : Lib.hasPrefix L [45] = false := by
    cases L with
    | nil => rfl
    | cons x t =>
      have := h x (by simp)
      show ([45] : List UInt8).isPrefixOf (x :: t) = false
      have hx : ((45 : UInt8) == x) = false := by
        rw [beq_eq_false_iff_ne]; intro e; subst e; simp at this
      simp [List.isPrefixOf, hx]
  exact ⟨e, by unfold Lib.trimPrefix; rw [e]; rfl⟩
theorem pre_yes (L : List UInt8) : Lib.hasPrefix (45 :: L) [45] = true ∧ Lib.trimPrefix (45 :: L) [45] = L := by
  have e : Lib.hasPrefix (45 :: L) [45] = true := by show ([45] : List UInt8).isPrefixOf (45 :: L) = true; simp [List.isPrefixOf]
  exact ⟨e, by unfold Lib.trimPrefix; rw [e]; rfl⟩
end Go.Proofs.YtkonghjmipclmaaDoor
