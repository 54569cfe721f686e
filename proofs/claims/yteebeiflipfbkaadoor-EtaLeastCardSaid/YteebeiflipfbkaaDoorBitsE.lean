/- Contracts of the program's sets: With at any number, Of. -/
import Derived.Test.YteebeiflipfbkaaDoorRows
import Derived.Test.YteebeiflipfbkaaDoorRowKit
import Derived.Test.YteebeiflipfbkaaDoorSlicesEq
import Derived.Test.YteebeiflipfbkaaDoorRowL
import Derived.Test.YteebeiflipfbkaaDoorMakeI
import Derived.Test.YteebeiflipfbkaaDoorBlocks
import Derived.Test.YteebeiflipfbkaaDoorBitsMath
import Derived.Test.YteebeiflipfbkaaDoorBitsA2
import Derived.Test.YteebeiflipfbkaaDoorBitsD
import Derived.WalkKit
import Derived.IntWalk
import Derived.Lib.Hide
import Derived.WalkSpells
import Derived.WalkLawsBesides
import Derived.Laws.CopyOwn
import Derived.Deep.QuietTactic
import Derived.Deep.LoopGhost
import Derived.BigQuiet
namespace Go.Proofs.YteebeiflipfbkaaDoor
open Go.RowKit
set_option linter.unusedSimpArgs false
set_option linter.unusedVariables false
theorem withF_out (F : Nat → Bool) {z : Int} (hz : z < 0 ∨ 128 ≤ z) : setV (withF F z) = setV F := setV_congr fun j hj => by
  unfold withF
  have : ((j : Int) == z) = false := by rw [beq_eq_false_iff_ne]; omega
  rw [this, Bool.or_false]
/-- the set of the first so many numbers of a row -/
def ofF (zs : List Int) : Nat → Nat → Bool
  | 0 => fun _ => false
  | k + 1 => withF (ofF zs k) (zat zs k)
theorem word_none : wordX (fun _ => false) = 0 ∧ wordY (fun _ => false) = 0 :=
  ⟨wordX_eq (by omega) fun j _ => by simp, wordY_eq (by omega) fun j _ => by simp⟩
structure OfW (w X : World) (x y : Nat) : Prop where
  r : Blk X w.heap.size 38 #[.int .u64 0, .int .u64 0]
  s : Blk X (w.heap.size + 1) 38 #[.int .u64 x, .int .u64 y]
  e : Below w.heap.size w X
end Go.Proofs.YteebeiflipfbkaaDoor
