/- alive of layer 69. -/
import Derived.Test.YteebeiflipfbkaaRows
import Derived.Test.YteebeiflipfbkaaRowKit
import Derived.Test.YteebeiflipfbkaaSlicesEq
import Derived.Test.YteebeiflipfbkaaSlicesEqM
import Derived.Test.YteebeiflipfbkaaRowL
import Derived.Test.YteebeiflipfbkaaMakeI
import Derived.Test.YteebeiflipfbkaaBlocks
import Derived.Test.YteebeiflipfbkaaShufA
import Derived.Test.YteebeiflipfbkaaShufB
import Derived.WalkKit
import Derived.IntWalk
import Derived.Lib.Hide
import Derived.Lib.SmallJoins
import Derived.WalkSpells
import Derived.WalkLawsBesides
import Derived.Deep.QuietTactic
import Derived.BigQuiet
namespace Go.Proofs.Yteebeiflipfbkaa
open Go.RowKit
set_option linter.unusedSimpArgs false
set_option linter.unusedVariables false
theorem rd10 (w : World) : RdI (w.alloc (.cells #[.int .i64 1, .int .i64 0] 3)) .i64 (some ⟨w.heap.size, 0, none⟩) [1, 0] := by
  apply rdI_mk
  intro i hi
  match i, hi with
  | 0, _ => exact ⟨World.cell?_alloc_mark w _ _ _ 0, rfl⟩
  | 1, _ => exact ⟨World.cell?_alloc_mark w _ _ _ 1, rfl⟩
set_option maxRecDepth 100000 in
set_option maxHeartbeats 2000000 in
theorem salive (w : World) :
    Calls Try.prog 38 #[] w fun e w' => e = .returned (.bool true) ∧ Below w.heap.size w w' := by
  have H := Lib.hid (order2 w.heap.size (w.alloc (.cells #[.int .u32 7] 125)) (World.cell?_alloc_mark w _ _ _ 0))
  go_enter Try.func38, Try.ntmps38
  go_wp2_with fail
  refine H.out.mono ?_
  rintro e w1 ⟨G, rfl, hG, hb1⟩
  have hs := hb1.size
  have HB := Lib.hid (((Below.refl w.heap.size w).alloc (Nat.le_refl _) (.cells #[.int .u32 7] 125)).trans (hb1.mono (by simp)))
  have HB2 := Lib.hid (HB.out.alloc HB.out.size (.cells #[.slice (some ⟨w.heap.size, 0, none⟩) 1 1, .int .i64 1] 64))
  have RG := Lib.hid (hG.kept ((Below.refl w1.heap.size w1).alloc (Nat.le_refl _) (.cells #[.slice (some ⟨w.heap.size, 0, none⟩) 1 1, .int .i64 1] 64)))
  clear hG hb1
  obtain ⟨V, hV⟩ : ∃ V, w1.alloc (.cells #[.slice (some ⟨w.heap.size, 0, none⟩) 1 1, .int .i64 1] 64) = V := ⟨_, rfl⟩
  have a1 : V.cell? ⟨w1.heap.size, 1, none⟩ = some (.int .i64 1) := by rw [← hV]; exact World.cell?_alloc_mark w1 _ _ _ 1
  have al : w1.heap.size < V.heap.size := by rw [← hV]; simp
  rw [hV] at HB2 RG
  have HE := Lib.hid (fun G c d (hG : RdI V .i64 G [1, 0]) => equal_int_n G (some ⟨V.heap.size, 0, none⟩) c d 2 [1, 0] _ rfl (hG.kept ((Below.refl V.heap.size V).alloc (Nat.le_refl _) _)) (rd10 V) (by decide))
  have a2 : (V.alloc (.cells #[.int .i64 1, .int .i64 0] 3)).cell? ⟨w1.heap.size, 1, none⟩ = some (.int .i64 1) := (((Below.refl V.heap.size V).alloc (Nat.le_refl _) _).cell (p := ⟨w1.heap.size, 1, none⟩) al).trans a1
  have HBV := Lib.hid (HB2.out.alloc HB2.out.size (.cells #[.int .i64 1, .int .i64 0] 3))
  go_wp2_with fail
  refine (HE.out _ _ _ RG.out).mono ?_
  rintro e w' ⟨rfl, q, rfl⟩
  go_wp2_with fail
  go_ret
  exact ⟨rfl, below_drewN HBV.out q⟩
end Go.Proofs.Yteebeiflipfbkaa
