/- The example of the sets: Next, Prev, Count there; the table's cell. -/
import Derived.Test.YtbjcigkakeffmaaDoorRows
import Derived.Test.YtbjcigkakeffmaaDoorKitM
import Derived.Test.YtbjcigkakeffmaaDoorShelf
import Derived.Test.YtbjcigkakeffmaaDoorBitM
import Derived.WalkKit
import Derived.IntWalk
import Derived.Lib.Hide
import Derived.Lib.LaidTab
import Derived.WalkSpells
import Derived.WalkLawsBesides
import Derived.Laws.CopyOwn
import Derived.Deep.QuietTactic
import Derived.Deep.RegionHeld3
import Derived.BigQuiet
namespace Go.Proofs.YtbjcigkakeffmaaDoor
open Go.RowKit
set_option linter.unusedSimpArgs false
set_option linter.unusedVariables false
/-- the one cell of the table that the example reads -/
def TzC (w : World) : Prop := w.cell? ⟨0, 63, none⟩ = some (.int .u8 6)
theorem TzC.kept {w w' : World} (h : TzC w) (hb : Below w.heap.size w w') : TzC w' := bkeep hb h
set_option maxRecDepth 100000 in
set_option maxHeartbeats 1000000 in
theorem tz_64 (w : World) (hT : TzC w) : Calls Tryd.prog 63 #[.int .u64 64] w fun e w' => e = .returned (.int .i64 6) ∧ w = w' := by
  have key : IntKind.u64.wrap (bits BinOp.and IntKind.u64 64 (IntKind.u64.wrap (-64)) * 285870213051353865) / 288230376151711744 = 63 := by decide +kernel
  unfold TzC at hT
  go_enter Tryd.func63, Tryd.ntmps63
  go_wp2_with (simp only [key])
  go_ret
  exact ⟨rfl, rfl⟩
set_option maxRecDepth 100000 in
set_option maxHeartbeats 1000000 in
theorem count_ex (w : World) : Calls Tryd.prog 29 #[.agg #[.int .u64 8, .int .u64 64]] w fun e w' => e = .returned (.int .i64 2) ∧ Below w.heap.size w w' := by
  go_enter Tryd.func29, Tryd.ntmps29
  go_wp2_with fail
  go_region_held3 (fun W => W.cell? ⟨w.heap.size, 0, none⟩ = some (.int .u64 8) ∧ W.cell? ⟨w.heap.size, 1, none⟩ = some (.int .u64 64))
    (go_keep)
    (first
      | (go_at_call_of 48 (Value.int IntKind.u64 8); refine (ones_8 _).mono ?_; rintro r w' ⟨rfl, rfl⟩)
      | (go_at_call_of 48 (Value.int IntKind.u64 64); refine (ones_64 _).mono ?_; rintro r w' ⟨rfl, rfl⟩))
  all_goals go_wp2_with fail
  all_goals go_ret
  all_goals exact ⟨rfl, ((Below.refl w.heap.size w).alloc (Nat.le_refl _) _).drew⟩
set_option maxRecDepth 100000 in
set_option maxHeartbeats 1000000 in
theorem next_ex (w : World) (hT : TzC w) : Calls Tryd.prog 57 #[.agg #[.int .u64 8, .int .u64 64], .int .i64 4] w fun e w' => e = .returned (.tuple #[.int .i64 70, .bool true]) ∧ Below w.heap.size w w' := by
  have HT := Lib.hid hT
  go_enter Tryd.func57, Tryd.ntmps57
  go_wp2_with fail
  refine (from_ex _).mono ?_
  rintro e w2 ⟨rfl, hb2⟩
  obtain ⟨B1, _, BE⟩ := one_blk hb2
  obtain ⟨c0, c1, f0, f1⟩ := B1.two
  have BEh := Lib.hid BE
  clear hb2 B1 BE
  go_wp2_with (go_at_call 63; refine (tz_64 _ (HT.out.kept ((BEh.out.setCell (Nat.le_refl _) _).setCell (Nat.le_refl _) _))).mono ?_; rintro e w3 ⟨rfl, rfl⟩)
  go_ret2
  exact ⟨rfl, (BEh.out.setCell (Nat.le_refl _) _).setCell (Nat.le_refl _) _⟩
set_option maxRecDepth 100000 in
set_option maxHeartbeats 1000000 in
theorem prev_ex (w : World) : Calls Tryd.prog 58 #[.agg #[.int .u64 8, .int .u64 64], .int .i64 69] w fun e w' => e = .returned (.tuple #[.int .i64 3, .bool true]) ∧ Below w.heap.size w w' := by
  have LN : Hid (∀ w, Calls Tryd.prog 64 #[.int .u64 8] w fun e w' => e = .returned (.int .i64 4) ∧ w = w') := Lib.hid fun w => (Tryd.bits_Len64 8 w (by omega) (by omega)).mono fun _ _ h => ⟨h.1.trans (by kernel_rfl), h.2.symm⟩
  go_enter Tryd.func58, Tryd.ntmps58
  go_wp2_with fail
  refine (below_ex _).mono ?_
  rintro e w2 ⟨rfl, hb2⟩
  obtain ⟨B1, _, BE⟩ := one_blk hb2
  obtain ⟨c0, c1, f0, f1⟩ := B1.two
  have BEh := Lib.hid BE
  clear hb2 B1 BE
  go_wp2_with (go_at_call 64; refine (LN.out _).mono ?_; rintro e w3 ⟨rfl, rfl⟩)
  go_ret2
  exact ⟨rfl, (BEh.out.setCell (Nat.le_refl _) _).setCell (Nat.le_refl _) _⟩
end Go.Proofs.YtbjcigkakeffmaaDoor
