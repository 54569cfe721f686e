/- want.Nearest, want.Last: the ends of what lies on. -/
import Derived.Test.YtbjcigkakeffmaaDoorRows
import Derived.Test.YtbjcigkakeffmaaDoorKitM
import Derived.Test.YtbjcigkakeffmaaDoorBitM
import Derived.Test.YtbjcigkakeffmaaDoorBitsU
import Derived.Test.YtbjcigkakeffmaaDoorWantA
import Derived.WalkKit
import Derived.IntWalk
import Derived.Lib.Hide
import Derived.WalkSpells
import Derived.WalkLawsBesides
import Derived.Laws.CopyOwn
import Derived.Deep.QuietTactic
import Derived.Deep.RegionHeld3
import Derived.BigQuiet
import Derived.BigRegion
namespace Go.Proofs.YtbjcigkakeffmaaDoor
open Go.RowKit
set_option linter.unusedSimpArgs false
set_option linter.unusedVariables false
set_option maxRecDepth 100000 in
set_option maxHeartbeats 1000000 in
theorem whigh_any (G : Nat → Bool) (w : World) : Calls Tryd.prog 47 #[setV G] w fun e w' => ∃ r b, e = .returned (.tuple #[.int .i64 r, .bool b]) ∧ IsHi G r b ∧ Below w.heap.size w w' := by
  have PP := fun w => prev_any G 127 (by omega) w
  unfold setV at PP ⊢
  obtain ⟨x, hX⟩ : ∃ x, wordX G = x := ⟨_, rfl⟩
  obtain ⟨y, hY⟩ : ∃ y, wordY G = y := ⟨_, rfl⟩
  simp only [hX, hY] at PP ⊢
  have PPh := Lib.hid PP
  clear PP hX hY
  go_enter Tryd.func47, Tryd.ntmps47
  go_wp2_with fail
  refine (PPh.out _).mono ?_
  rintro e w2 ⟨r, b, rfl, hh, hb⟩
  have BE := Lib.hid ((one_blk hb).2.2)
  have HH := Lib.hid (hh.congr (G := G) fun j hj => by unfold leF; rw [decide_eq_true (show (j : Int) ≤ 127 by omega), Bool.and_true])
  clear hh hb
  go_wp2_with fail
  go_ret2
  exact ⟨_, _, rfl, HH.out, BE.out⟩
set_option maxRecDepth 100000 in
set_option maxHeartbeats 1000000 in
theorem wlow_any (G : Nat → Bool) (w : World) (hT : TzT w) : Calls Tryd.prog 46 #[setV G] w fun e w' => ∃ r b, e = .returned (.tuple #[.int .i64 r, .bool b]) ∧ IsLo G r b ∧ Below w.heap.size w w' := by
  have PP := fun w hT => next_any G 0 w hT
  have HT := Lib.hid hT
  unfold setV at PP ⊢
  obtain ⟨x, hX⟩ : ∃ x, wordX G = x := ⟨_, rfl⟩
  obtain ⟨y, hY⟩ : ∃ y, wordY G = y := ⟨_, rfl⟩
  simp only [hX, hY] at PP ⊢
  have PPh := Lib.hid PP
  clear PP hX hY hT
  go_enter Tryd.func46, Tryd.ntmps46
  go_wp2_with fail
  refine (PPh.out _ (HT.out.kept ((Below.refl w.heap.size w).alloc (Nat.le_refl _) _))).mono ?_
  rintro e w2 ⟨r, b, rfl, hh, hb⟩
  have BE := Lib.hid ((one_blk hb).2.2)
  have HH := Lib.hid (hh.congr (G := G) fun j hj => by unfold geF lowF; rw [decide_eq_false (show ¬ (j : Int) < 0 by omega)]; simp)
  clear hh hb
  go_wp2_with fail
  go_ret2
  exact ⟨_, _, rfl, HH.out, BE.out⟩
/-- an end of what lies on: the near one, the far one -/
def IsEnd (near : Bool) (G : Nat → Bool) (d r : Int) (b : Bool) : Prop := if (decide (d < 0)) = near then IsHi G r b else IsLo G r b
theorem IsEnd.same {near : Bool} {G : Nat → Bool} {d r r' : Int} {b b' : Bool} (h : IsEnd near G d r b) (h' : IsEnd near G d r' b') : r = r' ∧ b = b' := by
  unfold IsEnd at h h'
  split at h
  · rename_i e; rw [if_pos e] at h'; exact h.same h'
  · rename_i e; rw [if_neg e] at h'; exact h.same h'
set_option maxRecDepth 100000 in
set_option maxHeartbeats 1000000 in
theorem last_any (F : Nat → Bool) (f d : Int) (w : World) (hT : TzT w) : Calls Tryd.prog 25 #[setV F, .int .i64 f, .int .i64 d] w fun e w' => ∃ r b, e = .returned (.tuple #[.int .i64 r, .bool b]) ∧ IsEnd false (byF F f d) d r b ∧ Below w.heap.size w w' := by
  rcases (show d < 0 ∨ 0 ≤ d by omega) with h | h
  · have PE := fun w hT => wlow_any (byF F f d) w hT
    have PB := fun w => beyond_any F f d w
    have HT := Lib.hid hT
    have PI : Hid (∀ r b, IsLo (byF F f d) r b → IsEnd false (byF F f d) d r b) := Lib.hid fun r b hh => by unfold IsEnd; rw [show decide (d < 0) = true by simp; omega]; exact hh
    unfold setV at PE PB ⊢
    obtain ⟨x, hX⟩ : ∃ x, wordX F = x := ⟨_, rfl⟩
    obtain ⟨y, hY⟩ : ∃ y, wordY F = y := ⟨_, rfl⟩
    obtain ⟨r0, hR⟩ : ∃ x, wordX (byF F f d) = x := ⟨_, rfl⟩
    obtain ⟨t0, hT0⟩ : ∃ y, wordY (byF F f d) = y := ⟨_, rfl⟩
    simp only [hX, hY, hR, hT0] at PE PB ⊢
    have PEh := Lib.hid PE
    have PBh := Lib.hid PB
    clear PE PB hX hY hR hT0 hT
    go_enter Tryd.func25, Tryd.ntmps25
    go_wp2_with fail
    refine (PBh.out _).mono ?_
    rintro e w1 ⟨rfl, hb⟩
    have E1 := Lib.hid ((one_blk hb).2.2)
    clear hb
    go_wp2_with fail
    have E3 := Lib.hid (E1.out.alloc E1.out.size (.cells #[(.int .u64 r0 : Value), .int .u64 t0] 40))
    refine (PEh.out _ (HT.out.kept E3.out)).mono ?_
    rintro e w2 ⟨r, b, rfl, hh, hb⟩
    have BE := Lib.hid (E3.out.trans (hb.mono E3.out.size))
    have HH := Lib.hid (PI.out _ _ hh)
    clear hh hb
    go_wp2_with fail
    go_ret2
    exact ⟨_, _, rfl, HH.out, BE.out⟩
  · have PE := fun w => whigh_any (byF F f d) w
    have PB := fun w => beyond_any F f d w
    have HT := Lib.hid hT
    have PI : Hid (∀ r b, IsHi (byF F f d) r b → IsEnd false (byF F f d) d r b) := Lib.hid fun r b hh => by unfold IsEnd; rw [show decide (d < 0) = false by simp; omega]; exact hh
    unfold setV at PE PB ⊢
    obtain ⟨x, hX⟩ : ∃ x, wordX F = x := ⟨_, rfl⟩
    obtain ⟨y, hY⟩ : ∃ y, wordY F = y := ⟨_, rfl⟩
    obtain ⟨r0, hR⟩ : ∃ x, wordX (byF F f d) = x := ⟨_, rfl⟩
    obtain ⟨t0, hT0⟩ : ∃ y, wordY (byF F f d) = y := ⟨_, rfl⟩
    simp only [hX, hY, hR, hT0] at PE PB ⊢
    have PEh := Lib.hid PE
    have PBh := Lib.hid PB
    clear PE PB hX hY hR hT0 hT
    go_enter Tryd.func25, Tryd.ntmps25
    go_wp2_with fail
    refine (PBh.out _).mono ?_
    rintro e w1 ⟨rfl, hb⟩
    have E1 := Lib.hid ((one_blk hb).2.2)
    clear hb
    go_wp2_with fail
    have E3 := Lib.hid (E1.out.alloc E1.out.size (.cells #[(.int .u64 r0 : Value), .int .u64 t0] 40))
    refine (PEh.out _).mono ?_
    rintro e w2 ⟨r, b, rfl, hh, hb⟩
    have BE := Lib.hid (E3.out.trans (hb.mono E3.out.size))
    have HH := Lib.hid (PI.out _ _ hh)
    clear hh hb
    go_wp2_with fail
    go_ret2
    exact ⟨_, _, rfl, HH.out, BE.out⟩
end Go.Proofs.YtbjcigkakeffmaaDoor
