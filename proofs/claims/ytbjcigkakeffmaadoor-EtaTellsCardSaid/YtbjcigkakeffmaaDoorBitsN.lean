/- The example of the sets. -/
import Derived.Test.YtbjcigkakeffmaaDoorRows
import Derived.Test.YtbjcigkakeffmaaDoorKitM
import Derived.Test.YtbjcigkakeffmaaDoorBitM
import Derived.Test.YtbjcigkakeffmaaDoorBitsL
import Derived.WalkKit
import Derived.IntWalk
import Derived.Lib.Hide
import Derived.WalkSpells
import Derived.WalkLawsBesides
import Derived.Laws.CopyOwn
import Derived.Deep.QuietTactic
import Derived.BigQuiet
import Derived.DeepKeys
namespace Go.Proofs.YtbjcigkakeffmaaDoor
open Go.RowKit
set_option linter.unusedSimpArgs false
set_option linter.unusedVariables false
theorem u64_same (d : Nat) (z : Int) (w : World) : (Op.equalIn (d + 1) 38 (.int .u64 z) (.int .u64 z)).run Tryd.prog w = .ok true w := by
  simp [Op.equalIn, run_underlying Tryd.underlying38]
theorem set_same0 (d : Nat) (x y : Int) (w : World) : (Op.equalIn (d + 1 + 1) 40 (.agg #[.int .u64 x, .int .u64 y]) (.agg #[.int .u64 x, .int .u64 y])).run Tryd.prog w = .ok true w := by
  obtain ⟨i, hi⟩ : ∃ i, Tryd.prog.info? 38 = some i := Option.isSome_iff_exists.1 (by kernel_rfl)
  have hc : Tryd.prog.cellsOf 38 = 1 := by kernel_rfl
  have p0 : (part 38 #[(.int .u64 x : Value), .int .u64 y] 0).run Tryd.prog w = .ok (.int .u64 x) w := by kernel_rfl
  have p1 : (part 38 #[(.int .u64 x : Value), .int .u64 y] 1).run Tryd.prog w = .ok (.int .u64 y) w := by kernel_rfl
  rw [run_equalIn_array (P := Tryd.prog) w (d + 1) _ _ Tryd.underlying40 hi, hc]
  show (Op.eqItems (d + 1) 38 1 _ _ [0, 1]).run Tryd.prog w = _
  simp only [Op.eqItems, Sem.run_bind, p0, p1, Nat.zero_mul, Nat.one_mul, u64_same, Result.andThen_ok]
  simp [p1, u64_same]
theorem set_same (x y : Int) (w : World) : (Op.equalIn 10000 40 (.agg #[.int .u64 x, .int .u64 y]) (.agg #[.int .u64 x, .int .u64 y])).run Tryd.prog w = .ok true w := set_same0 9998 x y w
theorem rd_370 (w : World) : RdI (w.alloc (.cells #[.int .i64 3, .int .i64 70] 3)) .i64 (some ⟨w.heap.size, 0, none⟩) [3, 70] := rdI_mk fun i hi => by
  have h0 := World.cell?_alloc_mark w #[.int .i64 3, .int .i64 70] 3 (0, 0) 0
  have h1 := World.cell?_alloc_mark w #[.int .i64 3, .int .i64 70] 3 (0, 0) 1
  rcases (show i = 0 ∨ i = 1 by simp at hi; omega) with rfl | rfl
  · exact ⟨h0, rfl⟩
  · exact ⟨h1, rfl⟩
theorem rd_65 (w : World) : RdI (w.alloc (.cells #[.int .i64 65] 3)) .i64 (some ⟨w.heap.size, 0, none⟩) [65] := rdI_mk fun i hi => by
  have h0 := World.cell?_alloc_mark w #[.int .i64 65] 3 (0, 0) 0
  rcases (show i = 0 by simp at hi; omega) with rfl
  exact ⟨h0, rfl⟩
theorem set_370 : setV (ofF [3, 70] 2) = .agg #[.int .u64 8, .int .u64 64] := by
  unfold setV
  rw [show wordX (ofF [3, 70] 2) = 8 by decide +kernel, show wordY (ofF [3, 70] 2) = 64 by decide +kernel]; rfl
theorem set_65 : setV (ofF [65] 1) = .agg #[.int .u64 0, .int .u64 2] := by
  unfold setV
  rw [show wordX (ofF [65] 1) = 0 by decide +kernel, show wordY (ofF [65] 1) = 2 by decide +kernel]; rfl
theorem set_sh : setV (shF (ofF [3, 70] 2) (-5)) = .agg #[.int .u64 0, .int .u64 2] := by
  unfold setV
  rw [show wordX (shF (ofF [3, 70] 2) (-5)) = 0 by decide +kernel, show wordY (shF (ofF [3, 70] 2) (-5)) = 2 by decide +kernel]; rfl
end Go.Proofs.YtbjcigkakeffmaaDoor
