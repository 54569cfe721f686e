/- alive of layer 63. -/
import Derived.Test.YtmdjncknjbjmbaaRows
import Derived.Test.YtmdjncknjbjmbaaRowKit
import Derived.Test.YtmdjncknjbjmbaaSlicesEq
import Derived.Test.YtmdjncknjbjmbaaSlicesEqM
import Derived.Test.YtmdjncknjbjmbaaRowL
import Derived.Test.YtmdjncknjbjmbaaMakeI
import Derived.Test.YtmdjncknjbjmbaaPulseMath
import Derived.Test.YtmdjncknjbjmbaaPulseA
import Derived.WalkKit
import Derived.IntWalk
import Derived.Lib.Hide
import Derived.WalkSpells
import Derived.WalkLawsBesides
import Derived.Deep.QuietTactic
import Derived.BigQuiet
namespace Go.Proofs.Ytmdjncknjbjmbaa
open Go.RowKit
set_option linter.unusedSimpArgs false
set_option linter.unusedVariables false
theorem pl_ticks (w : World) : RdI (w.alloc (.cells #[.int .i64 0, .int .i64 1, .int .i64 5] 3)) .i64 (some ⟨w.heap.size, 0, none⟩) [0, 1, 5] := by
  apply rdI_mk
  intro i hi
  match i, hi with
  | 0, _ => exact ⟨World.cell?_alloc_mark w _ _ _ 0, rfl⟩
  | 1, _ => exact ⟨World.cell?_alloc_mark w _ _ _ 1, rfl⟩
  | 2, _ => exact ⟨World.cell?_alloc_mark w _ _ _ 2, rfl⟩
theorem pl_want (w : World) : RdI (w.alloc (.cells #[.int .i64 2, .int .i64 0, .int .i64 1, .int .i64 0] 3)) .i64 (some ⟨w.heap.size, 0, none⟩) [2, 0, 1, 0] := by
  apply rdI_mk
  intro i hi
  match i, hi with
  | 0, _ => exact ⟨World.cell?_alloc_mark w _ _ _ 0, rfl⟩
  | 1, _ => exact ⟨World.cell?_alloc_mark w _ _ _ 1, rfl⟩
  | 2, _ => exact ⟨World.cell?_alloc_mark w _ _ _ 2, rfl⟩
  | 3, _ => exact ⟨World.cell?_alloc_mark w _ _ _ 3, rfl⟩
set_option maxHeartbeats 1000000 in
theorem palive (w : World) :
    Calls Try.prog 25 #[] w fun e w' => e = .returned (.bool true) ∧ Below w.heap.size w w' := by
  have H := Lib.hid (pcount_ok (some ⟨w.heap.size, 0, none⟩) 3 [0, 1, 5] 2 7 4 _ (by decide) (by decide) (by decide) (by decide) (by decide) (pl_ticks w) (by decide))
  go_enter Try.func25, Try.ntmps25
  go_wp2_with fail
  refine H.out.mono ?_
  rintro e w1 ⟨G, gc, rfl, hG, hb1⟩
  have e1 : rowL (pcnt 2 7 [0, 1, 5] ([0, 1, 5] : List Int).length) 4 = [2, 0, 1, 0] := by decide
  rw [e1] at hG
  have HE := Lib.hid (equal_int_n G (some ⟨w1.heap.size, 0, none⟩) gc 4 4 [2, 0, 1, 0] _ rfl (hG.kept ((Below.refl w1.heap.size w1).alloc (Nat.le_refl _) _)) (pl_want w1) (by decide))
  have HB := Lib.hid (((Below.refl w.heap.size w).alloc (Nat.le_refl _) _).trans (hb1.mono (by simp)))
  have hs := hb1.size
  clear hG hb1 e1
  go_wp2_with fail
  refine HE.out.mono ?_
  rintro e w' ⟨rfl, q, rfl⟩
  go_wp2_with fail
  go_ret
  exact ⟨rfl, below_drewN (HB.out.alloc HB.out.size _) q⟩
end Go.Proofs.Ytmdjncknjbjmbaa
