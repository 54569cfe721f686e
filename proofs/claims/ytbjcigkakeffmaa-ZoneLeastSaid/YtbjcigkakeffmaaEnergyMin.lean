/- min and max of four numbers; what stays of a block behind an append to another row. -/
import Derived.Test.YtbjcigkakeffmaaRows
import Derived.Test.YtbjcigkakeffmaaRowKit
import Derived.Test.YtbjcigkakeffmaaBlocks
import Derived.WalkKit
import Derived.Laws.AppendOwn
namespace Go.Proofs.Ytbjcigkakeffmaa
open Go.RowKit
theorem run_min4P {P : Program} (ts : Array TypeId) (t : TypeId) (a b c d : Int) (W : World) :
    (Builtin.min_ ts t #[.int .i64 a, .int .i64 b, .int .i64 c, .int .i64 d]).run P W = .ok (.int .i64 (min (min (min a b) c) d)) W := by
  have e : ∀ x y : Int, (if y < x then y else x) = min x y := by intro x y; omega
  simp [Builtin.min_, Builtin.min2, e]
theorem run_max4P {P : Program} (ts : Array TypeId) (t : TypeId) (a b c d : Int) (W : World) :
    (Builtin.max_ ts t #[.int .i64 a, .int .i64 b, .int .i64 c, .int .i64 d]).run P W = .ok (.int .i64 (max (max (max a b) c) d)) W := by
  have e : ∀ x y : Int, (if x < y then y else x) = max x y := by intro x y; omega
  simp [Builtin.max_, Builtin.max2, e]
theorem Blk.grownR {w w' : World} {g : Nat} {t : TypeId} {cs : Array Value} {row : Option Nat} (h : Blk w g t cs) (hg : w.grownBy w' row) (hne : ∀ k, row = some k → g ≠ k) : Blk w' g t cs :=
  (hg.block g h.lt (fun e => hne g e.symm rfl)).trans h
end Go.Proofs.Ytbjcigkakeffmaa
