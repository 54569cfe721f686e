/- Scenarios as texts: the example. -/
import Derived.Test.YtmnildjcnpfddaaDoorRows
import Derived.Test.YtmnildjcnpfddaaDoorRowKit
import Derived.Test.YtmnildjcnpfddaaDoorShelf
import Derived.Test.YtmnildjcnpfddaaDoorRowS
import Derived.Test.YtmnildjcnpfddaaDoorRowZ
import Derived.Test.YtmnildjcnpfddaaDoorRowL
import Derived.Test.YtmnildjcnpfddaaDoorRowM
import Derived.Test.YtmnildjcnpfddaaDoorBlocks
import Derived.Test.YtmnildjcnpfddaaDoorBL
import Derived.Test.YtmnildjcnpfddaaDoorTab
import Derived.Test.YtmnildjcnpfddaaDoorDigB
import Derived.Lib.ItoaLen
import Derived.Lib.Join
import Derived.Test.YtmnildjcnpfddaaDoorAtKit
import Derived.Test.YtmnildjcnpfddaaDoorShowA
import Derived.Test.YtmnildjcnpfddaaDoorShowB
import Derived.Deep.RegionHeld3
import Derived.WalkKit
import Derived.IntWalk
import Derived.Lib.Hide
import Derived.WalkSpells
import Derived.WalkLawsBesides
import Derived.Laws.IdiomStrings
import Derived.Laws.OwnMore
import Derived.Laws.MakeOwn
import Derived.OwnWalk
import Derived.Deep.QuietTactic
import Derived.BigQuiet
import Derived.BigRegion
import Derived.Deep.LoopGhost
namespace Go.Proofs.YtmnildjcnpfddaaDoor
open Go.RowKit Go.Sort
set_option linter.unusedSimpArgs false
set_option linter.unusedVariables false
theorem wh_ex : whL 260 3 1 = [51, 58, 49, 58, 32, 101, 114, 114, 111, 114, 32, 50, 54, 48] := by
  have h0 : Lib.itoa 260 = [50, 54, 48] := by decide +kernel
  have h1 : Lib.itoa 3 = [51] := by decide +kernel
  have h2 : Lib.itoa 1 = [49] := by decide +kernel
  unfold whL
  rw [if_neg (by decide), h0, h1, h2]
  rfl
set_option maxHeartbeats 4000000 in
theorem alive27 (w : World) (ht : Tab w) : Calls Tryd.prog 12 #[] w fun e w' => e = .returned (.bool true) ∧ Below w.heap.size w w' := by
  have K1 : Hid (Calls Tryd.prog 6 #[.agg #[.int .i64 260, .int .i64 3, .int .i64 1]] w fun en w' => en = .returned (.string (ByteArray.mk #[51, 58, 49, 58, 32, 101, 114, 114, 111, 114, 32, 50, 54, 48])) ∧ Below w.heap.size w w') := Lib.hid (by
    have h := pwhere_any 260 3 1 w ht (by unfold I64; omega) (by unfold I64; omega) (by unfold I64; omega)
    rw [wh_ex] at h
    exact h)
  have K2 : Hid (∀ W, Calls Tryd.prog 8 #[.int .i64 2] W fun en w' => en = .returned (.string (ByteArray.mk #[108, 117, 110, 99, 104])) ∧ Below W.heap.size W w') := Lib.hid (fun W => ptemp_any 2 W)
  clear ht
  go_enter Tryd.func12, Tryd.ntmps12
  go_wp2_with fail
  refine K1.out.mono ?_
  rintro e w1 ⟨rfl, hb⟩
  have HB := Lib.hid hb
  clear hb
  go_wp2_with fail
  refine (K2.out w1).mono ?_
  rintro e w2 ⟨rfl, hb⟩
  have HB2 := Lib.hid (HB.out.trans (hb.mono HB.out.size))
  clear hb
  go_wp2_with fail
  go_ret
  exact ⟨rfl, HB2.out⟩
end Go.Proofs.YtmnildjcnpfddaaDoor
