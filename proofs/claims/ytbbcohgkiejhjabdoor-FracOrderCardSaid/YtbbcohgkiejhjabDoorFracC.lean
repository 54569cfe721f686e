/- Contracts of cmp.Compare, cmp.Or and frac.Compare, and of the document's. -/
import Derived.Test.YtbbcohgkiejhjabDoorRows
import Derived.Test.YtbbcohgkiejhjabDoorNumsMath
import Derived.Test.YtbbcohgkiejhjabDoorNumsA
import Derived.Test.YtbbcohgkiejhjabDoorNumsB
import Derived.Test.YtbbcohgkiejhjabDoorRowKit
import Derived.Test.YtbbcohgkiejhjabDoorFracA
import Derived.Test.YtbbcohgkiejhjabDoorShelf
import Derived.WalkKit
import Derived.Lib.Hide
import Derived.WalkSpells
import Derived.WalkLawsBesides
import Derived.Deep.QuietTactic
import Derived.BigQuiet
import Derived.Deep.RegionHeld3
namespace Go.Proofs.YtbbcohgkiejhjabDoor
open Go.RowKit
set_option linter.unusedSimpArgs false
set_option linter.unusedVariables false
/-- which of two numbers is ahead -/
def cmpI (x y : Int) : Int := if x < y then -1 else if y < x then 1 else 0
theorem cmpI_lt {x y : Int} (h : x < y) : cmpI x y = -1 := if_pos h
theorem cmpI_gt {x y : Int} (h : y < x) : cmpI x y = 1 := by unfold cmpI; rw [if_neg (by omega), if_pos h]
theorem cmpI_eq {x y : Int} (h : x = y) : cmpI x y = 0 := by unfold cmpI; rw [if_neg (by omega), if_neg (by omega)]
set_option maxHeartbeats 400000 in
theorem nanI (x : Int) (w : World) : Calls Tryd.prog 38 #[.int .i64 x] w fun e w' => e = .returned (.bool false) ∧ w = w' := by
  go_enter Tryd.func38, Tryd.ntmps38
  go_wp2_with fail
  go_ret
  exact ⟨rfl, rfl⟩
set_option maxHeartbeats 400000 in
theorem nanU (x : Int) (w : World) : Calls Tryd.prog 39 #[.int .u64 x] w fun e w' => e = .returned (.bool false) ∧ w = w' := by
  go_enter Tryd.func39, Tryd.ntmps39
  go_wp2_with fail
  go_ret
  exact ⟨rfl, rfl⟩
set_option maxHeartbeats 400000 in
theorem compareI (x y : Int) (w : World) : Calls Tryd.prog 27 #[.int .i64 x, .int .i64 y] w fun e w' => e = .returned (.int .i64 (cmpI x y)) ∧ w = w' := by
  rcases Int.lt_trichotomy x y with h | h | h
  · rw [cmpI_lt h]
    go_enter Tryd.func27, Tryd.ntmps27
    go_wp2_with (go_at_call 38; refine (nanI _ _).mono ?_; rintro e w' ⟨rfl, rfl⟩)
    go_ret
    exact ⟨rfl, rfl⟩
  · subst h
    rw [cmpI_eq rfl]
    go_enter Tryd.func27, Tryd.ntmps27
    go_wp2_with (go_at_call 38; refine (nanI _ _).mono ?_; rintro e w' ⟨rfl, rfl⟩)
    go_ret
    exact ⟨rfl, rfl⟩
  · rw [cmpI_gt h]
    have h' : ¬ x < y := by omega
    go_enter Tryd.func27, Tryd.ntmps27
    go_wp2_with (go_at_call 38; refine (nanI _ _).mono ?_; rintro e w' ⟨rfl, rfl⟩)
    go_ret
    exact ⟨rfl, rfl⟩
set_option maxHeartbeats 400000 in
theorem compareU (x y : Int) (w : World) : Calls Tryd.prog 28 #[.int .u64 x, .int .u64 y] w fun e w' => e = .returned (.int .i64 (cmpI x y)) ∧ w = w' := by
  rcases Int.lt_trichotomy x y with h | h | h
  · rw [cmpI_lt h]
    go_enter Tryd.func28, Tryd.ntmps28
    go_wp2_with (go_at_call 39; refine (nanU _ _).mono ?_; rintro e w' ⟨rfl, rfl⟩)
    go_ret
    exact ⟨rfl, rfl⟩
  · subst h
    rw [cmpI_eq rfl]
    go_enter Tryd.func28, Tryd.ntmps28
    go_wp2_with (go_at_call 39; refine (nanU _ _).mono ?_; rintro e w' ⟨rfl, rfl⟩)
    go_ret
    exact ⟨rfl, rfl⟩
  · rw [cmpI_gt h]
    have h' : ¬ x < y := by omega
    go_enter Tryd.func28, Tryd.ntmps28
    go_wp2_with (go_at_call 39; refine (nanU _ _).mono ?_; rintro e w' ⟨rfl, rfl⟩)
    go_ret
    exact ⟨rfl, rfl⟩
/-- the first that isn't 0 -/
def or3 (x y z : Int) : Int := if x = 0 then (if y = 0 then z else y) else x
def OrR (x y z : Int) (k : Nat) : Prop := (1 ≤ k → x = 0) ∧ (2 ≤ k → y = 0) ∧ (3 ≤ k → z = 0)
set_option maxHeartbeats 1000000 in
theorem or_any (g : Nat) (x y z : Int) (w : World) (h0 : w.cell? ⟨g, 0, none⟩ = some (.int .i64 x)) (h1 : w.cell? ⟨g, 1, none⟩ = some (.int .i64 y)) (h2 : w.cell? ⟨g, 2, none⟩ = some (.int .i64 z)) :
    Calls Tryd.prog 26 #[.slice (some ⟨g, 0, none⟩) 3 3] w fun e w' => e = .returned (.int .i64 (or3 x y z)) ∧ w = w' := by
  go_enter Tryd.func26, Tryd.ntmps26
  go_wp2_with fail
  go_loop [8] (fun i => ∃ k : Nat, k ≤ 3 ∧ i = .int .i64 k ∧ Hid (OrR x y z k)) (fun i => 3 - (intOf i).toNat)
  case atStart => exact ⟨0, by omega, rfl, by unfold Hid OrR; omega⟩
  case round =>
    obtain ⟨k, hk, rfl, H⟩ := hrel
    by_cases e0 : k = 0
    · subst e0
      go_wp2
      · have hx : x ≠ 0 := bne_iff_ne.1 (show (x != 0) = true by assumption)
        go_ret
        exact ⟨ret1 (by unfold or3; rw [if_neg hx]), rfl⟩
      · have hx : x = 0 := bne_eq_false_iff_eq.1 (show (x != 0) = false by assumption)
        have X := Lib.hid hx
        clear hx
        go_round
        case rel => exact ⟨1, by omega, rfl, by have x0 := X.out; unfold Hid OrR; omega⟩
        case measure => simp [intOf]
    · by_cases e1 : k = 1
      · subst e1
        go_wp2
        · have hy : y ≠ 0 := bne_iff_ne.1 (show (y != 0) = true by assumption)
          go_ret
          exact ⟨ret1 (by have hh := H.out; unfold OrR at hh; unfold or3; rw [if_pos (by omega), if_neg hy]), rfl⟩
        · have hx : y = 0 := bne_eq_false_iff_eq.1 (show (y != 0) = false by assumption)
          have X := Lib.hid hx
          clear hx
          go_round
          case rel => exact ⟨2, by omega, rfl, by have x0 := X.out; have hh := H.out; unfold OrR at hh; unfold Hid OrR; omega⟩
          case measure => simp [intOf]
      · by_cases e2 : k = 2
        · subst e2
          go_wp2
          · go_ret
            exact ⟨ret1 (by have hh := H.out; unfold OrR at hh; unfold or3; rw [if_pos (by omega), if_pos (by omega)]), rfl⟩
          · have hx : z = 0 := bne_eq_false_iff_eq.1 (show (z != 0) = false by assumption)
            have X := Lib.hid hx
            clear hx
            go_round
            case rel => exact ⟨3, by omega, rfl, by have x0 := X.out; have hh := H.out; unfold OrR at hh; unfold Hid OrR; omega⟩
            case measure => simp [intOf]
        · obtain rfl : k = 3 := by omega
          go_wp2
          go_ret
          exact ⟨ret1 (by have hh := H.out; unfold OrR at hh; unfold or3; rw [if_pos (by omega), if_pos (by omega)]; omega), rfl⟩
/-- by what two are: their wholes, then two products -/
def cF (a d p q : Int) : Int := or3 (cmpI a d) (cmpI (p / 18446744073709551616) (q / 18446744073709551616)) (cmpI (p % 18446744073709551616) (q % 18446744073709551616))
set_option maxHeartbeats 1000000 in
theorem compare_any (a b c d e f : Nat) (w : World) (ha : a ≤ 9223372036854775807) (hb : b ≤ 9223372036854775807) (hc : c ≤ 9223372036854775807) (hd : d ≤ 9223372036854775807) (he : e ≤ 9223372036854775807) (hf : f ≤ 9223372036854775807) :
    Calls Tryd.prog 14 #[.agg #[.int .i64 a, .int .i64 b, .int .i64 c], .agg #[.int .i64 d, .int .i64 e, .int .i64 f]] w fun r w' => r = .returned (.int .i64 (cF a d ((b : Int) * f) ((e : Int) * c))) ∧ Below w.heap.size w w' := by
  go_enter Tryd.func14, Tryd.ntmps14
  go_wp2_with fail
  refine (Tryd.bits_Mul64 b f (by omega) (by omega) _).mono ?_
  rintro r w' ⟨rfl, rfl⟩
  go_wp2_with fail
  refine (Tryd.bits_Mul64 e c (by omega) (by omega) _).mono ?_
  rintro r w' ⟨rfl, rfl⟩
  go_wp2_with fail
  refine (compareI _ _ _).mono ?_
  rintro r w' ⟨rfl, rfl⟩
  go_wp2_with fail
  refine (compareU _ _ _).mono ?_
  rintro r w' ⟨rfl, rfl⟩
  go_wp2_with fail
  refine (compareU _ _ _).mono ?_
  rintro r w' ⟨rfl, rfl⟩
  go_wp2_with fail
  refine (or_any _ (cmpI a d) (cmpI ((b : Int) * f / 18446744073709551616) ((e : Int) * c / 18446744073709551616)) (cmpI ((b : Int) * f % 18446744073709551616) ((e : Int) * c % 18446744073709551616)) _ (by go_simp) (by go_simp) (by go_simp)).mono ?_
  rintro r w' ⟨rfl, rfl⟩
  go_wp2_with fail
  go_ret
  exact ⟨rfl, ((((Below.refl _ _).alloc (Nat.le_refl _) _).alloc (by simp) _).alloc (by simp; omega) _)⟩
theorem cmp_split (p q : Nat) : or3 0 (cmpI ((p : Int) / 18446744073709551616) ((q : Int) / 18446744073709551616)) (cmpI ((p : Int) % 18446744073709551616) ((q : Int) % 18446744073709551616)) = cmpI p q := by
  unfold or3 cmpI
  repeat' split
  all_goals omega
/-- by what two are: their wholes, then their products -/
def cG (a d p q : Int) : Int := if cmpI a d = 0 then cmpI p q else cmpI a d
theorem cF_eq (a d : Int) (p q : Nat) : cF a d p q = cG a d p q := by
  unfold cF cG
  by_cases h : cmpI a d = 0
  · rw [h, if_pos rfl]; exact cmp_split p q
  · rw [if_neg h]; unfold or3; rw [if_neg h]
theorem cG_turn (a d p q : Int) : cG d a q p = -cG a d p q := by
  unfold cG cmpI
  repeat' split
  all_goals omega
theorem cG_same (a p : Int) : cG a a p p = 0 := by
  unfold cG; rw [cmpI_eq rfl, if_pos rfl, cmpI_eq rfl]
/-- the document's -/
def rcB (a d h k l m : Int) : Int := if a < d ∨ a = d ∧ (h < k ∨ h = k ∧ l < m) then -1 else if d < a ∨ k < h ∨ m < l then 1 else 0
theorem rc_eq (a d : Int) (p q : Nat) : rcB a d ((p : Int) / 18446744073709551616) ((q : Int) / 18446744073709551616) ((p : Int) % 18446744073709551616) ((q : Int) % 18446744073709551616) = cG a d p q := by
  unfold rcB cG cmpI
  repeat' split
  all_goals omega
end Go.Proofs.YtbbcohgkiejhjabDoor
