/- Contracts of the document's sets: Of. -/
import Derived.Test.YteebeiflipfbkaaDoorRows
import Derived.Test.YteebeiflipfbkaaDoorRowKit
import Derived.Test.YteebeiflipfbkaaDoorSlicesEq
import Derived.Test.YteebeiflipfbkaaDoorRowL
import Derived.Test.YteebeiflipfbkaaDoorMakeI
import Derived.Test.YteebeiflipfbkaaDoorBlocks
import Derived.Test.YteebeiflipfbkaaDoorBitsMath
import Derived.Test.YteebeiflipfbkaaDoorBitsA2
import Derived.Test.YteebeiflipfbkaaDoorBitsD
import Derived.Test.YteebeiflipfbkaaDoorBitsE
import Derived.WalkKit
import Derived.IntWalk
import Derived.Lib.Hide
import Derived.WalkSpells
import Derived.WalkLawsBesides
import Derived.Laws.CopyOwn
import Derived.Deep.WholeRow
import Derived.Deep.QuietTactic
import Derived.Deep.LoopGhost
import Derived.BigQuiet
namespace Go.Proofs.YteebeiflipfbkaaDoor
open Go.RowKit
set_option linter.unusedSimpArgs false
set_option linter.unusedVariables false
theorem zc_none : zc = rowC (fun _ => false) 128 := by
  rw [zero128 fun _ => false]
  unfold rowC
  congr 1
theorem rowC_with (F : Nat → Bool) (n : Nat) (hn : n < 128) : (rowC F 128).setIfInBounds n (.bool true) = rowC (withF F n) 128 := by
  apply Array.ext
  · simp [rowC]
  · intro i h1 h2
    have hi : i < 128 := by simpa [rowC] using h2
    rw [Array.getElem_setIfInBounds (by simpa [rowC] using hi)]
    unfold withF
    split
    · rename_i e; subst e; simp [rowC, hi]
    · rename_i e
      simp only [rowC, List.getElem_toArray, List.getElem_map, List.getElem_range]
      have : ((i : Int) == (n : Int)) = false := by rw [beq_eq_false_iff_ne]; omega
      rw [this, Bool.or_false]
theorem rowC_wout (F : Nat → Bool) {z : Int} (hz : z < 0 ∨ 128 ≤ z) : rowC F 128 = rowC (withF F z) 128 := rowC_congr fun j hj => by
  unfold withF
  have : ((j : Int) == z) = false := by rw [beq_eq_false_iff_ne]; omega
  rw [this, Bool.or_false]
structure RfW (w X : World) (cs : Array Value) : Prop where
  r : Blk X w.heap.size 38 #[.int .u64 0, .int .u64 0]
  s : Blk X (w.heap.size + 1) 45 cs
  e : Below w.heap.size w X
end Go.Proofs.YteebeiflipfbkaaDoor
