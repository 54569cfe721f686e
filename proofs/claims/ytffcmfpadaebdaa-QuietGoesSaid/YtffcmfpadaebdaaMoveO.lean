/- The example of layer 44. -/
import Derived.Test.YtffcmfpadaebdaaFaceB
import Derived.Test.YtffcmfpadaebdaaCarM
import Derived.Test.YtffcmfpadaebdaaWantM
import Derived.Test.YtffcmfpadaebdaaRows
import Derived.Test.YtffcmfpadaebdaaKitM
import Derived.Test.YtffcmfpadaebdaaBitM
import Derived.Laws.AppendOwnNone
import Derived.WalkKit
import Derived.OwnWalk
import Derived.Laws.MakeOwn
import Derived.Laws.OwnMore
import Derived.Deep.LoopGhost
import Derived.IntWalk
import Derived.Lib.Hide
import Derived.WalkSpells
import Derived.WalkLawsBesides
import Derived.Laws.CopyOwn
import Derived.Deep.QuietTactic
import Derived.Deep.RegionHeld3
import Derived.BigQuiet
import Derived.BigRegion
import Derived.Test.YtffcmfpadaebdaaMoveB
import Derived.Test.YtffcmfpadaebdaaFaceC
import Derived.Test.YtffcmfpadaebdaaFaceD
import Derived.Test.YtffcmfpadaebdaaNearH
import Derived.Test.YtffcmfpadaebdaaPlaceA
import Derived.Test.YtffcmfpadaebdaaMoveMath
import Derived.Test.YtffcmfpadaebdaaMoveC
import Derived.Maps.AppendAt
import Derived.Test.YtffcmfpadaebdaaMoveN
import Derived.Test.YtffcmfpadaebdaaMoveK
namespace Go.Proofs.Ytffcmfpadaebdaa
open Go.RowKit
set_option linter.unusedSimpArgs false
set_option linter.unusedVariables false
def exQ : Nat → Int := fun j => if j = 0 then 2 else if j = 10 then 9 else 1
theorem car_f0 (p d m l : Int) (b : Bool) (R : Option Addr) (k c : Nat) (w : World) : (Instr.field 29 (.agg #[.int .i64 p, .int .i64 d, .int .i64 m, .int .i64 l, .bool b, .slice R k c]) 0).run Try.prog w = .ok (.int .i64 p) w := by kernel_rfl
set_option maxRecDepth 100000 in
set_option maxHeartbeats 1000000 in
theorem qalive (w : World) : Calls Try.prog 16 #[] w fun e w' => e = .returned (.bool true) ∧ Below w.heap.size w w' := by
  have ST := fun SA w => qnext_door exQ SA 1 1 0 0 3 5 false none 0 0 (fun _ => false) (fun _ => false) w (by omega)
  have AF := fun w => qafter_go 9 (-1) 1 0 4 false none 0 0 z00 w (fun i hi => absurd hi (by omega)) (by omega) (by omega) (by omega) (by omega) (by omega) (by omega)
  rw [set_none] at ST
  unfold scnV carV at ST
  unfold carV at AF
  simp only [show exQ 0 = 2 from rfl, show exQ 1 = 1 from rfl, show exQ 2 = 1 from rfl, show exQ 3 = 1 from rfl, show exQ 4 = 1 from rfl, show exQ 5 = 1 from rfl, show exQ 6 = 1 from rfl, show exQ 7 = 1 from rfl, show exQ 9 = 1 from rfl, show exQ 10 = 9 from rfl, show exQ 11 = 1 from rfl, show exQ 12 = 1 from rfl] at ST
  simp only [show (9 : Int) + 4 * -1 = 5 from rfl] at AF
  have CF := car_f0 5 (-1) 1 0 false
  have STh := Lib.hid ST
  have AFh := Lib.hid AF
  clear ST AF
  go_enter Try.func16, Try.ntmps16
  go_wp2_with fail
  refine (STh.out _ _).mono ?_
  rintro e v1 ⟨rfl, hb⟩
  have E1 := Lib.hid (((Below.refl w.heap.size w).alloc (Nat.le_refl _) _).trans (hb.mono (by simp)))
  clear hb
  go_wp2_with fail
  refine (AFh.out _).mono ?_
  rintro e v2 ⟨A', c', rfl, _, _, hb⟩
  have E2 := Lib.hid (E1.out.trans (hb.mono E1.out.size))
  clear hb E1
  go_wp2_with fail
  go_ret
  exact ⟨rfl, E2.out⟩
end Go.Proofs.Ytffcmfpadaebdaa
