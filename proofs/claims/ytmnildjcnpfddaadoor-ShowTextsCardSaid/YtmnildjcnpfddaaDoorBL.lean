/- Bytes as a string. -/
import Derived.Test.YtmnildjcnpfddaaDoorRows
import Derived.Test.YtmnildjcnpfddaaDoorRowKit
namespace Go.Proofs.YtmnildjcnpfddaaDoor
set_option linter.unusedSimpArgs false
set_option linter.unusedVariables false
/-- bytes as a string -/
def bL (L : List UInt8) : ByteArray := ByteArray.mk L.toArray
theorem bL_size (L : List UInt8) : (bL L).size = L.length := by show L.toArray.size = _; simp
theorem bL_list (L : List UInt8) : (bL L).toList = L := by rw [ByteArray.toList_eq]; rfl
theorem bL_at (L : List UInt8) (k : Nat) (h : k < (bL L).size) (h' : k < L.length) : (bL L)[k]'h = L[k]'h' := rfl
theorem bL_sub (L : List UInt8) (i j : Nat) : (bL L).extract i j = bL ((L.drop i).take (j - i)) := by
  unfold bL
  rw [ByteArray.extract_mk]
  first | done | (congr 1; done) | (congr 1; apply Array.ext'; simp [List.take_drop, List.drop_take])
theorem bL_head (P B : List UInt8) : (bL (P ++ B)).extract 0 P.length = bL P := by
  rw [bL_sub]; simp
theorem bL_rest (P B : List UInt8) (c : UInt8) (n : Nat) (hn : n = (P ++ c :: B).length) : (bL (P ++ c :: B)).extract (P.length + 1) n = bL B := by
  rw [bL_sub, hn]
  congr 1
  rw [show P ++ c :: B = (P ++ [c]) ++ B by simp]
  rw [show P.length + 1 = (P ++ [c]).length by simp, List.drop_left]
  exact List.take_of_length_le (by simp; omega)
end Go.Proofs.YtmnildjcnpfddaaDoor
