/- The example of the sets: its numbers. -/
import Derived.Test.YtdcollehdhkngaaDoorRows
import Derived.Test.YtdcollehdhkngaaDoorRowKit
import Derived.Test.YtdcollehdhkngaaDoorShelf
import Derived.Test.YtdcollehdhkngaaDoorBlocks
import Derived.Test.YtdcollehdhkngaaDoorBitsMath
import Derived.Test.YtdcollehdhkngaaDoorBitsA2
import Derived.Test.YtdcollehdhkngaaDoorBitsD
import Derived.Test.YtdcollehdhkngaaDoorBitsE
import Derived.Test.YtdcollehdhkngaaDoorBitsF
import Derived.WalkKit
import Derived.IntWalk
import Derived.Lib.Hide
import Derived.WalkSpells
import Derived.WalkLawsBesides
import Derived.Laws.CopyOwn
import Derived.Deep.QuietTactic
import Derived.Deep.RegionHeld3
import Derived.BigQuiet
import Derived.BigRegion
namespace Go.Proofs.YtdcollehdhkngaaDoor
open Go.RowKit
set_option linter.unusedSimpArgs false
set_option linter.unusedVariables false
set_option maxRecDepth 100000 in
set_option maxHeartbeats 1000000 in
theorem lowest_4 (w : World) : Calls Tryd.prog 68 #[.int .i64 4] w fun e w' => e = .returned (.agg #[.int .u64 15, .int .u64 0]) ∧ Below w.heap.size w w' := by
  go_enter Tryd.func68, Tryd.ntmps68
  go_wp2_with fail
  go_region
  go_wp2_with fail
  refine bodyPost_ret (v := .agg #[.int .u64 15, .int .u64 0]) (by simp [results, Tryd.results68, go_sem] <;> decide +kernel) rfl ⟨rfl, ?_⟩
  exact ((Below.refl w.heap.size w).alloc (Nat.le_refl _) _).drew
set_option maxRecDepth 100000 in
set_option maxHeartbeats 1000000 in
theorem lowest_70 (w : World) : Calls Tryd.prog 68 #[.int .i64 70] w fun e w' => e = .returned (.agg #[.int .u64 18446744073709551615, .int .u64 63]) ∧ Below w.heap.size w w' := by
  go_enter Tryd.func68, Tryd.ntmps68
  go_wp2_with fail
  go_region
  go_wp2_with fail
  refine bodyPost_ret (v := .agg #[.int .u64 18446744073709551615, .int .u64 63]) (by simp [results, Tryd.results68, go_sem] <;> decide +kernel) rfl ⟨rfl, ?_⟩
  exact ((Below.refl w.heap.size w).alloc (Nat.le_refl _) _).drew
set_option maxRecDepth 100000 in
set_option maxHeartbeats 1000000 in
theorem ones_8 (w : World) : Calls Tryd.prog 66 #[.int .u64 8] w fun e w' => e = .returned (.int .i64 1) ∧ w = w' := by
  go_enter Tryd.func66, Tryd.ntmps66
  go_wp2_with fail
  go_ret
  exact ⟨by kernel_rfl, rfl⟩
set_option maxRecDepth 100000 in
set_option maxHeartbeats 1000000 in
theorem ones_64 (w : World) : Calls Tryd.prog 66 #[.int .u64 64] w fun e w' => e = .returned (.int .i64 1) ∧ w = w' := by
  go_enter Tryd.func66, Tryd.ntmps66
  go_wp2_with fail
  go_ret
  exact ⟨by kernel_rfl, rfl⟩
set_option maxRecDepth 100000 in
set_option maxHeartbeats 1000000 in
theorem and_any (x y a b : Int) (w : World) : Calls Tryd.prog 21 #[.agg #[.int .u64 x, .int .u64 y], .agg #[.int .u64 a, .int .u64 b]] w fun e w' => e = .returned (.agg #[.int .u64 (bits .and .u64 x a), .int .u64 (bits .and .u64 y b)]) ∧ Below w.heap.size w w' := by
  go_enter Tryd.func21, Tryd.ntmps21
  go_wp2_with fail
  refine bodyPost_ret (v := .agg #[.int .u64 (bits .and .u64 x a), .int .u64 (bits .and .u64 y b)]) (by simp [results, Tryd.results21, go_sem]) rfl ⟨rfl, ?_⟩
  exact ((((Below.refl w.heap.size w).alloc (Nat.le_refl _) _).alloc (by simp) _).alloc (by simp; omega) _)
set_option maxRecDepth 100000 in
set_option maxHeartbeats 1000000 in
theorem sub_any (x y a b : Int) (w : World) : Calls Tryd.prog 23 #[.agg #[.int .u64 x, .int .u64 y], .agg #[.int .u64 a, .int .u64 b]] w fun e w' => e = .returned (.agg #[.int .u64 (bits .andNot .u64 x a), .int .u64 (bits .andNot .u64 y b)]) ∧ Below w.heap.size w w' := by
  go_enter Tryd.func23, Tryd.ntmps23
  go_wp2_with fail
  refine bodyPost_ret (v := .agg #[.int .u64 (bits .andNot .u64 x a), .int .u64 (bits .andNot .u64 y b)]) (by simp [results, Tryd.results23, go_sem]) rfl ⟨rfl, ?_⟩
  exact ((((Below.refl w.heap.size w).alloc (Nat.le_refl _) _).alloc (by simp) _).alloc (by simp; omega) _)
end Go.Proofs.YtdcollehdhkngaaDoor
