/- The example of the sets: its numbers. -/
import Derived.Test.YtdcollehdhkngaaRows
import Derived.Test.YtdcollehdhkngaaRowKit
import Derived.Test.YtdcollehdhkngaaShelf
import Derived.Test.YtdcollehdhkngaaBlocks
import Derived.Test.YtdcollehdhkngaaBitsMath
import Derived.Test.YtdcollehdhkngaaBitsA2
import Derived.Test.YtdcollehdhkngaaBitsD
import Derived.Test.YtdcollehdhkngaaBitsE
import Derived.Test.YtdcollehdhkngaaBitsF
import Derived.WalkKit
import Derived.IntWalk
import Derived.Lib.Hide
import Derived.WalkSpells
import Derived.WalkLawsBesides
import Derived.Laws.CopyOwn
import Derived.Deep.QuietTactic
import Derived.Deep.RegionHeld3
import Derived.BigQuiet
import Derived.BigRegion
namespace Go.Proofs.Ytdcollehdhkngaa
open Go.RowKit
set_option linter.unusedSimpArgs false
set_option linter.unusedVariables false
set_option maxRecDepth 100000 in
set_option maxHeartbeats 1000000 in
theorem lowest_4 (w : World) : Calls Try.prog 70 #[.int .i64 4] w fun e w' => e = .returned (.agg #[.int .u64 15, .int .u64 0]) ∧ Below w.heap.size w w' := by
  go_enter Try.func70, Try.ntmps70
  go_wp2_with fail
  go_region
  go_wp2_with fail
  refine bodyPost_ret (v := .agg #[.int .u64 15, .int .u64 0]) (by simp [results, Try.results70, go_sem] <;> decide +kernel) rfl ⟨rfl, ?_⟩
  exact ((Below.refl w.heap.size w).alloc (Nat.le_refl _) _).drew
set_option maxRecDepth 100000 in
set_option maxHeartbeats 1000000 in
theorem lowest_70 (w : World) : Calls Try.prog 70 #[.int .i64 70] w fun e w' => e = .returned (.agg #[.int .u64 18446744073709551615, .int .u64 63]) ∧ Below w.heap.size w w' := by
  go_enter Try.func70, Try.ntmps70
  go_wp2_with fail
  go_region
  go_wp2_with fail
  refine bodyPost_ret (v := .agg #[.int .u64 18446744073709551615, .int .u64 63]) (by simp [results, Try.results70, go_sem] <;> decide +kernel) rfl ⟨rfl, ?_⟩
  exact ((Below.refl w.heap.size w).alloc (Nat.le_refl _) _).drew
set_option maxRecDepth 100000 in
set_option maxHeartbeats 1000000 in
theorem and_any (x y a b : Int) (w : World) : Calls Try.prog 71 #[.agg #[.int .u64 x, .int .u64 y], .agg #[.int .u64 a, .int .u64 b]] w fun e w' => e = .returned (.agg #[.int .u64 (bits .and .u64 x a), .int .u64 (bits .and .u64 y b)]) ∧ Below w.heap.size w w' := by
  go_enter Try.func71, Try.ntmps71
  go_wp2_with fail
  refine bodyPost_ret (v := .agg #[.int .u64 (bits .and .u64 x a), .int .u64 (bits .and .u64 y b)]) (by simp [results, Try.results71, go_sem]) rfl ⟨rfl, ?_⟩
  exact ((((Below.refl w.heap.size w).alloc (Nat.le_refl _) _).alloc (by simp) _).alloc (by simp; omega) _)
set_option maxRecDepth 100000 in
set_option maxHeartbeats 1000000 in
theorem sub_any (x y a b : Int) (w : World) : Calls Try.prog 69 #[.agg #[.int .u64 x, .int .u64 y], .agg #[.int .u64 a, .int .u64 b]] w fun e w' => e = .returned (.agg #[.int .u64 (bits .andNot .u64 x a), .int .u64 (bits .andNot .u64 y b)]) ∧ Below w.heap.size w w' := by
  go_enter Try.func69, Try.ntmps69
  go_wp2_with fail
  refine bodyPost_ret (v := .agg #[.int .u64 (bits .andNot .u64 x a), .int .u64 (bits .andNot .u64 y b)]) (by simp [results, Try.results69, go_sem]) rfl ⟨rfl, ?_⟩
  exact ((((Below.refl w.heap.size w).alloc (Nat.le_refl _) _).alloc (by simp) _).alloc (by simp; omega) _)
end Go.Proofs.Ytdcollehdhkngaa
