/- The document's Some of none; left and same of layer 69. -/
import Derived.Test.YteebeiflipfbkaaRows
import Derived.Test.YteebeiflipfbkaaRowKit
import Derived.Test.YteebeiflipfbkaaSlicesEq
import Derived.Test.YteebeiflipfbkaaSlicesEqM
import Derived.Test.YteebeiflipfbkaaRowL
import Derived.Test.YteebeiflipfbkaaMakeI
import Derived.Test.YteebeiflipfbkaaBlocks
import Derived.Test.YteebeiflipfbkaaWordsA
import Derived.Test.YteebeiflipfbkaaShufMath
import Derived.Test.YteebeiflipfbkaaShufA
import Derived.Test.YteebeiflipfbkaaShufB
import Derived.Test.YteebeiflipfbkaaShufD
import Derived.Test.YteebeiflipfbkaaShufE
import Derived.Test.YteebeiflipfbkaaShufF
import Derived.Test.YteebeiflipfbkaaShufG
import Derived.WalkKit
import Derived.IntWalk
import Derived.Lib.Hide
import Derived.Lib.SmallJoins
import Derived.WalkSpells
import Derived.WalkLawsBesides
import Derived.Laws.CopyOwn
import Derived.Laws.MakeOwn
import Derived.Laws.OwnMore
import Derived.OwnWalk
import Derived.Deep.QuietTactic
import Derived.Deep.RegionHeld3
import Derived.Deep.LoopGhost
import Derived.Deep.Onto
import Derived.BigQuiet
import Derived.BigRegion
namespace Go.Proofs.Yteebeiflipfbkaa
open Go.RowKit
set_option linter.unusedSimpArgs false
set_option linter.unusedVariables false
set_option maxHeartbeats 1000000 in
theorem sleft_out (W : Option Addr) (m c : Nat) (a : Int) (w : World) (h : ¬ (0 ≤ a ∧ a ≤ m)) :
    Calls Try.prog 40 #[.agg #[.slice W m c, .int .i64 a]] w fun e w' => e = .returned (.slice none 0 0) ∧ Below w.heap.size w w' := by
  rcases (show a < 0 ∨ (¬ a < 0 ∧ (m : Int) < a) by omega) with h1 | ⟨h1, h2⟩
  all_goals (
    clear h
    go_enter Try.func40, Try.ntmps40
    go_wp2_with fail
    go_ret
    exact ⟨rfl, (Below.refl _ _).alloc (Nat.le_refl _) _⟩)
set_option maxHeartbeats 1000000 in
theorem sleft_in (b off m c ka : Nat) (w : World) (h : ka ≤ m) (hc : m ≤ c) (hm : c ≤ maxLen) :
    Calls Try.prog 40 #[.agg #[.slice (some ⟨b, off, none⟩) m c, .int .i64 ka]] w fun e w' => (∃ A, e = .returned (.slice A (m - ka) (c - ka)) ∧ (ka < m → A = some ⟨b, off + ka, none⟩)) ∧ Below w.heap.size w w' := by
  unfold maxLen at hm
  have h1 : (ka : Int) ≤ m := by omega
  have h2 : (ka : Int) ≤ c := by omega
  have h3 : (m : Int) ≤ c := by omega
  go_enter Try.func40, Try.ntmps40
  go_wp2_with fail
  · go_ret
    exact ⟨⟨_, rfl, fun h => absurd h (by omega)⟩, (Below.refl _ _).alloc (Nat.le_refl _) _⟩
  · go_ret
    exact ⟨⟨_, rfl, fun _ => rfl⟩, (Below.refl _ _).alloc (Nat.le_refl _) _⟩
set_option maxHeartbeats 1000000 in
theorem sleft_nil (w : World) :
    Calls Try.prog 40 #[.agg #[.slice none 0 0, .int .i64 0]] w fun e w' => e = .returned (.slice none 0 0) ∧ Below w.heap.size w w' := by
  go_enter Try.func40, Try.ntmps40
  go_wp2_with fail
  go_ret
  exact ⟨rfl, (Below.refl _ _).alloc (Nat.le_refl _) _⟩
set_option maxHeartbeats 1000000 in
theorem sleft_zero (ad : Addr) (c : Nat) (w : World) (hm : c ≤ maxLen) :
    Calls Try.prog 40 #[.agg #[.slice (some ad) 0 c, .int .i64 0]] w fun e w' => (∃ A c', e = .returned (.slice A 0 c')) ∧ Below w.heap.size w w' := by
  unfold maxLen at hm
  go_enter Try.func40, Try.ntmps40
  go_wp2_with fail
  all_goals (
    go_ret
    exact ⟨⟨_, _, rfl⟩, (Below.refl _ _).alloc (Nat.le_refl _) _⟩)
set_option maxHeartbeats 1000000 in
theorem ssame_any (W : Option Addr) (c : Nat) (a1 a2 u : Int) (zs : List Int) (w : World) (hr : RdI w .u32 W zs) (hl : zs.length ≤ 1000) (ha : a1 - u = a2) (h1 : -1099511627776 ≤ a1 ∧ a1 ≤ 1099511628776) (h2 : 0 ≤ u ∧ u ≤ 300) :
    Calls Try.prog 37 #[.agg #[.slice W zs.length c, .int .i64 a1], .agg #[.slice W zs.length c, .int .i64 a2], .int .i64 u] w fun e w' => e = .returned (.bool true) ∧ Below w.heap.size w w' := by
  have HR := Lib.hid hr
  obtain ⟨h3, h4⟩ := h1
  obtain ⟨h5, h6⟩ := h2
  clear hr
  go_enter Try.func37, Try.ntmps37
  go_wp2_with fail
  refine (equal_u32 W W c c zs _ (HR.out.kept (((Below.refl _ _).alloc (Nat.le_refl _) _).alloc (by simp) _)) (HR.out.kept (((Below.refl _ _).alloc (Nat.le_refl _) _).alloc (by simp) _)) (by omega)).mono ?_
  rintro e w' ⟨rfl, q, rfl⟩
  go_wp2_with fail
  go_ret
  exact ⟨rfl, below_drewN (((Below.refl _ _).alloc (Nat.le_refl _) _).alloc (by simp) _) _⟩
end Go.Proofs.Yteebeiflipfbkaa
