/- Stories: the chapter's example. -/
import Derived.Test.YtobeppajomhfjacDoorRows
import Derived.Test.YtobeppajomhfjacDoorRowKit
import Derived.Test.YtobeppajomhfjacDoorRowS
import Derived.Test.YtobeppajomhfjacDoorRowZ
import Derived.Test.YtobeppajomhfjacDoorRowV
import Derived.Test.YtobeppajomhfjacDoorRowW
import Derived.Test.YtobeppajomhfjacDoorSlicesEq
import Derived.Test.YtobeppajomhfjacDoorBlocks
import Derived.Test.YtobeppajomhfjacDoorAtKit
import Derived.Test.YtobeppajomhfjacDoorGanttMath
import Derived.Test.YtobeppajomhfjacDoorTrackA
import Derived.WalkKit
import Derived.IntWalk
import Derived.Lib.Hide
import Derived.WalkSpells
import Derived.WalkLawsBesides
import Derived.OwnWalk
import Derived.Deep.QuietTactic
import Derived.BigQuiet
import Derived.Deep.RegionHeld3
import Derived.Deep.LoopGhost
import Derived.BigRegion
import Derived.Below
import Derived.Test.YtobeppajomhfjacDoorStoB
namespace Go.Proofs.YtobeppajomhfjacDoor
open Go.RowKit
set_option linter.unusedSimpArgs false
set_option linter.unusedVariables false
def zal : Nat → Nat → Int := fun _ j => ([0, 5, 1, 2, -1, -1, -1] : List Int).getD j 0
theorem it1 (k : Nat) (h : k < 10) : Lib.itoa (k : Int) = [UInt8.ofNat (48 + k)] := by rw [Lib.itoa_nonneg, Lib.decDigits_one h]
theorem sto_eg : stoF zal 1 0 = [48, 32, 99, 97, 109, 101, 32, 97, 116, 32, 53, 32, 102, 114, 111, 109, 32, 49, 32, 116, 111, 32, 50, 44, 32, 119, 97, 105, 116, 115] := by
  have e0 : Lib.itoa 0 = [48] := it1 0 (by decide)
  have e1 : Lib.itoa 5 = [53] := it1 5 (by decide)
  have e2 : Lib.itoa 1 = [49] := it1 1 (by decide)
  have e3 : Lib.itoa 2 = [50] := it1 2 (by decide)
  have h : stoF zal 1 0 = cmL 0 5 1 2 ++ [44, 32, 119, 97, 105, 116, 115] := rfl
  rw [h]
  unfold cmL
  rw [e0, e1, e2, e3]
  rfl
set_option maxRecDepth 100000 in
set_option maxHeartbeats 4000000 in
theorem alive51 (w : World) (ht : Tab w) : Calls Tryd.prog 6 #[] w fun e w' => e = .returned (.bool true) ∧ Below w.heap.size w w' := by
  have EE : Hid (Below w.heap.size w (w.alloc (.cells #[.int .i64 0, .int .i64 5, .int .i64 1, .int .i64 2, .int .i64 (-1), .int .i64 (-1), .int .i64 (-1)] 30))) := Lib.hid ((Below.refl w.heap.size w).alloc (Nat.le_refl _) _)
  have BX := Blk.new w #[.int .i64 0, .int .i64 5, .int .i64 1, .int .i64 2, .int .i64 (-1), .int .i64 (-1), .int .i64 (-1)] 30
  have hr : RdZ (w.alloc (.cells #[.int .i64 0, .int .i64 5, .int .i64 1, .int .i64 2, .int .i64 (-1), .int .i64 (-1), .int .i64 (-1)] 30)) 7 (some ⟨w.heap.size, 0, none⟩) 1 zal := rdZ_mk (fun i j hi hj => by
    obtain rfl : i = 0 := by omega
    rw [Nat.zero_mul, Nat.zero_add, Nat.zero_add, BX.cell j]
    have h7 : j = 0 ∨ j = 1 ∨ j = 2 ∨ j = 3 ∨ j = 4 ∨ j = 5 ∨ j = 6 := by omega
    rcases h7 with rfl | rfl | rfl | rfl | rfl | rfl | rfl <;> exact ⟨rfl, by decide⟩) (by simp)
  have K := Lib.hid (story_any (T := some ⟨w.heap.size, 0, none⟩) (A := none) (ct := 1) (nt := 1) (d := 0) (n := 0) (u := 0) (id := 0) (z := zal) _ (tabB ht EE.out) (Nat.le_refl _) (by decide) hr (by decide))
  rw [sto_eg] at K
  clear hr BX ht
  go_enter Tryd.func6, Tryd.ntmps6
  go_wp2_with fail
  refine K.out.mono ?_
  rintro e w1 ⟨rfl, hb⟩
  have E1 := Lib.hid (EE.out.trans (hb.mono EE.out.size))
  clear hb K
  go_wp2_with fail
  go_ret
  exact ⟨rfl, E1.out⟩
end Go.Proofs.YtobeppajomhfjacDoor
