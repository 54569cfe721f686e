/- Contracts of frac.Text and of the document's: a quotient as a text. -/
import Derived.Test.YtbbcohgkiejhjabDoorRows
import Derived.Test.YtbbcohgkiejhjabDoorRowKit
import Derived.Test.YtbbcohgkiejhjabDoorNumsMath
import Derived.Test.YtbbcohgkiejhjabDoorNumsA
import Derived.Test.YtbbcohgkiejhjabDoorDigA
import Derived.Test.YtbbcohgkiejhjabDoorDigB
import Derived.Test.YtbbcohgkiejhjabDoorFracA
import Derived.WalkKit
import Derived.Lib.Hide
import Derived.Lib.ItoaLen
import Derived.WalkSpells
import Derived.WalkLawsBesides
import Derived.Deep.QuietTactic
import Derived.BigQuiet
import Derived.Deep.RegionHeld3
namespace Go.Proofs.YtbbcohgkiejhjabDoor
open Go.RowKit Go.Sort
set_option linter.unusedSimpArgs false
set_option linter.unusedVariables false
/-- a quotient's text -/
def frT (a b c : Int) : List UInt8 := if b = 0 then Lib.itoa a else Lib.itoa a ++ [32] ++ Lib.itoa b ++ [47] ++ Lib.itoa c
theorem frT_zero (a c : Int) : frT a 0 c = Lib.itoa a := if_pos rfl
theorem frT_more {b : Int} (a c : Int) (h : ¬ b = 0) : frT a b c = Lib.itoa a ++ [32] ++ Lib.itoa b ++ [47] ++ Lib.itoa c := if_neg h
theorem join5 (A B C : List UInt8) : (ByteArray.mk A.toArray) ++ ((ByteArray.mk #[32]) ++ (ByteArray.mk B.toArray) ++ (ByteArray.mk #[47]) ++ (ByteArray.mk C.toArray)) = ByteArray.mk (A ++ [32] ++ B ++ [47] ++ C).toArray := by
  simp [ByteArray.mk_append_mk, List.append_assoc]
theorem join5' (A B C : List UInt8) : (ByteArray.mk A.toArray) ++ (ByteArray.mk #[32]) ++ (ByteArray.mk B.toArray) ++ (ByteArray.mk #[47]) ++ (ByteArray.mk C.toArray) = ByteArray.mk (A ++ [32] ++ B ++ [47] ++ C).toArray := by
  simp [ByteArray.mk_append_mk, List.append_assoc]
theorem keep_cell {w w' : World} {g i : Nat} {v : Value} (hb : Below w.heap.size w w') (h : w.cell? ⟨g, i, none⟩ = some v) : w'.cell? ⟨g, i, none⟩ = some v := (hb.cell (lt_of_cell h)).trans h
set_option maxHeartbeats 400000 in
theorem rtext_zero (a c : Int) (w : World) (h0 : -9223372036854775808 ≤ a) (h1 : a ≤ 9223372036854775807) :
    Calls Tryd.prog 19 #[.agg #[.int .i64 a, .int .i64 0, .int .i64 c]] w fun e w' => e = .returned (.string ⟨(frT a 0 c).toArray⟩) ∧ Below w.heap.size w w' := by
  have HA := Lib.hid (fun w => rof_any a w h0 h1)
  go_enter Tryd.func19, Tryd.ntmps19
  go_wp2_with fail
  refine (HA.out _).mono ?_
  rintro e w1 ⟨rfl, hb1⟩
  have k1 : w1.cell? ⟨w.heap.size, 1, none⟩ = some (.int .i64 0) := keep_cell hb1 (World.cell?_alloc_mark w _ _ _ 1)
  go_wp2_with fail
  go_ret
  exact ⟨by rw [frT_zero]; rfl, ((Below.refl _ _).alloc (Nat.le_refl _) _).trans (hb1.mono (by simp))⟩
set_option maxHeartbeats 800000 in
theorem rtext_more (a b c : Int) (w : World) (hb0 : ¬ b = 0) (h0 : -9223372036854775808 ≤ a) (h1 : a ≤ 9223372036854775807) (h2 : -9223372036854775808 ≤ b) (h3 : b ≤ 9223372036854775807) (h4 : -9223372036854775808 ≤ c) (h5 : c ≤ 9223372036854775807) :
    Calls Tryd.prog 19 #[.agg #[.int .i64 a, .int .i64 b, .int .i64 c]] w fun e w' => e = .returned (.string ⟨(frT a b c).toArray⟩) ∧ Below w.heap.size w w' := by
  have lA := Lib.itoa_length_le a h0 h1
  have lB := Lib.itoa_length_le b h2 h3
  have lC := Lib.itoa_length_le c h4 h5
  have A := fun w => rof_any a w h0 h1
  have B := fun w => rof_any b w h2 h3
  have C := fun w => rof_any c w h4 h5
  have T := frT_more a c hb0
  generalize Lib.itoa a = LA at lA A T
  generalize Lib.itoa b = LB at lB B T
  generalize Lib.itoa c = LC at lC C T
  have HA := Lib.hid A
  have HB := Lib.hid B
  have HC := Lib.hid C
  have HT := Lib.hid T
  have x1 : ¬ 9223372036854775807 < 1 + LB.length := by omega
  have x2 : ¬ 9223372036854775807 < 1 + LB.length + 1 := by omega
  have x3 : ¬ 9223372036854775807 ≤ 1 + LB.length := by omega
  have x4 : ¬ 9223372036854775807 < 1 + LB.length + 1 + LC.length := by omega
  have x5 : ¬ 9223372036854775807 < LA.length + (1 + LB.length + 1 + LC.length) := by omega
  have hb1' : (b != 0) = true := by rw [bne_iff_ne]; exact hb0
  clear A B C T
  go_enter Tryd.func19, Tryd.ntmps19
  go_wp2_with fail
  refine (HA.out _).mono ?_
  rintro e w1 ⟨rfl, hb1⟩
  have k1 : w1.cell? ⟨w.heap.size, 1, none⟩ = some (.int .i64 b) := keep_cell hb1 (World.cell?_alloc_mark w _ _ _ 1)
  have k2 : w1.cell? ⟨w.heap.size, 2, none⟩ = some (.int .i64 c) := keep_cell hb1 (World.cell?_alloc_mark w _ _ _ 2)
  go_wp2_with fail
  go_region_held3 (fun W => W.cell? ⟨w.heap.size, 1, none⟩ = some (.int .i64 b) ∧ W.cell? ⟨w.heap.size, 2, none⟩ = some (.int .i64 c))
    (go_keep)
    (first
      | (go_at_call_of 36 (Value.int IntKind.i64 b); refine (HB.out _).mono ?_; rintro e w2 ⟨rfl, hbB⟩; have n1 := Lib.hid (keep_cell hbB k1); have n2 := Lib.hid (keep_cell hbB k2); clear k1 k2; have k1 := n1.out; have k2 := n2.out)
      | (go_at_call_of 36 (Value.int IntKind.i64 c); refine (HC.out _).mono ?_; rintro e w3 ⟨rfl, hbC⟩; have n1 := Lib.hid (keep_cell hbC k1); have n2 := Lib.hid (keep_cell hbC k2); clear k1 k2; have k1 := n1.out; have k2 := n2.out))
  have hw1 : Below w.heap.size w w1 := ((Below.refl _ _).alloc (Nat.le_refl _) _).trans (hb1.mono (by simp))
  have hw2 : Below w.heap.size w w2 := (hw1.drew).trans (hbB.mono (hw1.drew).size)
  have hw3 : Below w.heap.size w w3 := hw2.trans (hbC.mono hw2.size)
  go_wp2_with fail
  go_ret
  exact ⟨by rw [HT.out, ← join5]; rfl, hw3⟩
end Go.Proofs.YtbbcohgkiejhjabDoor
