/- The example of layer 31. -/
import Derived.Test.YtffcmfpadaebdaaRows
import Derived.Test.YtffcmfpadaebdaaKitM
import Derived.Test.YtffcmfpadaebdaaBitM
import Derived.Test.YtffcmfpadaebdaaCarM
import Derived.Test.YtffcmfpadaebdaaFaceB
import Derived.Test.YtffcmfpadaebdaaFaceC
import Derived.Test.YtffcmfpadaebdaaFaceD
import Derived.WalkKit
import Derived.DeepKeys
import Derived.Deep.LoopGhost
import Derived.IntWalk
import Derived.Lib.Hide
import Derived.WalkSpells
import Derived.WalkLawsBesides
import Derived.Laws.CopyOwn
import Derived.Deep.QuietTactic
import Derived.Deep.RegionHeld3
import Derived.BigQuiet
import Derived.BigRegion
namespace Go.Proofs.Ytffcmfpadaebdaa
open Go.RowKit
set_option linter.unusedSimpArgs false
set_option linter.unusedVariables false
theorem below_alloc_self (w : World) (o : Obj) : Below w.heap.size w (w.alloc o) := (Below.refl w.heap.size w).alloc (Nat.le_refl _) o
theorem rd_3 (w : World) : RdI (w.alloc (.cells #[.int .i64 3] 3)) .i64 (some ⟨w.heap.size, 0, none⟩) [3] := rdI_mk fun i hi => by
  have h0 := World.cell?_alloc_mark w #[.int .i64 3] 3 (0, 0) 0
  rcases (show i = 0 by simp at hi; omega) with rfl
  exact ⟨h0, rfl⟩
def z00 : Nat → Nat → Int := fun _ _ => 0
def exW : Nat → Bool := waF z00 0 4 (fun _ => false) (ofF [3] 1)
def exU : Nat → Bool := laF 0 4 (fun _ => false)
def exD : Nat → Bool := laF 0 4 (ofF [3] 1)
theorem ex_of : ofWay exW exU exD 3 1 = -1 := by decide +kernel
theorem ex_stop3 : stopB (rdF z00 0) exW exU exD 3 1 = true := by decide +kernel
theorem ex_stop2 : stopB (rdF z00 0) exW exU exD 2 1 = false := by decide +kernel
end Go.Proofs.Ytffcmfpadaebdaa
