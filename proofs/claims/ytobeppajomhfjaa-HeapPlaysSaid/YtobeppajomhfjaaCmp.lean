/- Contracts of cmp.Compare and cmp.Or at int. -/
import Derived.Test.YtobeppajomhfjaaRows
import Derived.Test.YtobeppajomhfjaaRowKit
import Derived.WalkKit
import Derived.Lib.Hide
import Derived.WalkSpells
import Derived.WalkLawsBesides
namespace Go.Proofs.Ytobeppajomhfjaa
open Go.RowKit
set_option linter.unusedSimpArgs false
set_option linter.unusedVariables false
theorem retI {k : IntKind} {a b : Int} (h : a = b) : Ending.returned (.int k a) = .returned (.int k b) := by rw [h]
/-- which of two numbers is ahead -/
def cmpI (x y : Int) : Int := if x < y then -1 else if y < x then 1 else 0
theorem cmpI_lt {x y : Int} (h : x < y) : cmpI x y = -1 := if_pos h
theorem cmpI_gt {x y : Int} (h : y < x) : cmpI x y = 1 := by unfold cmpI; rw [if_neg (by omega), if_pos h]
theorem cmpI_eq {x y : Int} (h : x = y) : cmpI x y = 0 := by unfold cmpI; rw [if_neg (by omega), if_neg (by omega)]
set_option maxHeartbeats 400000 in
theorem nanI (x : Int) (w : World) : Calls Try.prog 44 #[.int .i64 x] w fun e w' => e = .returned (.bool false) ∧ w = w' := by
  go_enter Try.func44, Try.ntmps44
  go_wp2_with fail
  go_ret
  exact ⟨rfl, rfl⟩
set_option maxHeartbeats 400000 in
theorem compareI (x y : Int) (w : World) : Calls Try.prog 34 #[.int .i64 x, .int .i64 y] w fun e w' => e = .returned (.int .i64 (cmpI x y)) ∧ w = w' := by
  rcases Int.lt_trichotomy x y with h | h | h
  · rw [cmpI_lt h]
    go_enter Try.func34, Try.ntmps34
    go_wp2_with (go_at_call 44; refine (nanI _ _).mono ?_; rintro e w' ⟨rfl, rfl⟩)
    go_ret
    exact ⟨rfl, rfl⟩
  · subst h
    rw [cmpI_eq rfl]
    go_enter Try.func34, Try.ntmps34
    go_wp2_with (go_at_call 44; refine (nanI _ _).mono ?_; rintro e w' ⟨rfl, rfl⟩)
    go_ret
    exact ⟨rfl, rfl⟩
  · rw [cmpI_gt h]
    have h' : ¬ x < y := by omega
    go_enter Try.func34, Try.ntmps34
    go_wp2_with (go_at_call 44; refine (nanI _ _).mono ?_; rintro e w' ⟨rfl, rfl⟩)
    go_ret
    exact ⟨rfl, rfl⟩
/-- the first of two that isn't 0 -/
def or2 (x y : Int) : Int := if x = 0 then y else x
def OrR2 (x y : Int) (k : Nat) : Prop := (1 ≤ k → x = 0) ∧ (2 ≤ k → y = 0)
set_option maxHeartbeats 1000000 in
theorem or_two (g : Nat) (x y : Int) (w : World) (h0 : w.cell? ⟨g, 0, none⟩ = some (.int .i64 x)) (h1 : w.cell? ⟨g, 1, none⟩ = some (.int .i64 y)) :
    Calls Try.prog 33 #[.slice (some ⟨g, 0, none⟩) 2 2] w fun e w' => e = .returned (.int .i64 (or2 x y)) ∧ w = w' := by
  go_enter Try.func33, Try.ntmps33
  go_wp2_with fail
  go_loop [8] (fun i => ∃ k : Nat, k ≤ 2 ∧ i = .int .i64 k ∧ Hid (OrR2 x y k)) (fun i => 2 - (intOf i).toNat)
  case atStart => exact ⟨0, by omega, rfl, by unfold Hid OrR2; omega⟩
  case round =>
    obtain ⟨k, hk, rfl, H⟩ := hrel
    by_cases e0 : k = 0
    · subst e0
      go_wp2
      · have hx : x ≠ 0 := bne_iff_ne.1 (show (x != 0) = true by assumption)
        go_ret
        exact ⟨retI (by unfold or2; rw [if_neg hx]), rfl⟩
      · have hx : x = 0 := bne_eq_false_iff_eq.1 (show (x != 0) = false by assumption)
        have X := Lib.hid hx
        clear hx
        go_round
        case rel => exact ⟨1, by omega, rfl, by have x0 := X.out; unfold Hid OrR2; omega⟩
        case measure => simp [intOf]
    · by_cases e1 : k = 1
      · subst e1
        go_wp2
        · go_ret
          exact ⟨retI (by have hh := H.out; unfold OrR2 at hh; unfold or2; rw [if_pos (by omega)]), rfl⟩
        · have hx : y = 0 := bne_eq_false_iff_eq.1 (show (y != 0) = false by assumption)
          have X := Lib.hid hx
          clear hx
          go_round
          case rel => exact ⟨2, by omega, rfl, by have x0 := X.out; have hh := H.out; unfold OrR2 at hh; unfold Hid OrR2; omega⟩
          case measure => simp [intOf]
      · obtain rfl : k = 2 := by omega
        go_wp2
        go_ret
        exact ⟨retI (by have hh := H.out; unfold OrR2 at hh; unfold or2; rw [if_pos (by omega)]; omega), rfl⟩
end Go.Proofs.Ytobeppajomhfjaa
