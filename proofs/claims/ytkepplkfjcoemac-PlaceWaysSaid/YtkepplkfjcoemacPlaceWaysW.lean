/- The walk of PlaceWays: it answers true for every input, and leaves all old blocks as they were. No condition. -/
import Derived.Test.YtkepplkfjcoemacRows
import Derived.Test.YtkepplkfjcoemacRowKit
import Derived.Test.YtkepplkfjcoemacCmp
import Derived.Test.YtkepplkfjcoemacPlaceA
import Derived.WalkKit
import Derived.ProofKit
import Derived.OpenShut
import Derived.Deep.QuietTactic
import Derived.BigQuiet
import Derived.Lib.SmallJoins
import Derived.Lib.Hide
import Derived.WalkSpells
import Derived.WalkLawsBesides
import Derived.IntWalk
import Derived.Deep.RegionHeld3
namespace Go.Proofs.Ytkepplkfjcoemac.placeWays
open Go.ChangeShapes Go.WideShapes Go.ChangeAt Go.RowKit Go.Joins
set_option linter.unusedSimpArgs false
set_option linter.unusedVariables false

set_option maxHeartbeats 1000000 in
theorem walk_a_lt (n a b : Int) (w : World) (hs : n < 0) (ha : ¬ (0 ≤ a ∧ a ≤ 1048576)) :
    Calls Try.prog 8 #[.int .i64 n, .int .i64 a, .int .i64 b] w fun e w' => e = .returned (.bool true) ∧ ∃ k, w' = w.drewN k := by
  have HS := Lib.hid (fun w => sign_any n w)
  have E : Hid (cmpI n 0 = -1) := Lib.hid (cmpI_lt (by omega))
  have d1 := decide_eq_false ha
  clear ha
  go_enter Try.func8, Try.ntmps8
  go_wp2_with (first
    | (go_at_call 28; refine (HS.out _).mono ?_; rintro e w' ⟨rfl, rfl⟩; rw [E.out])
    | (go_at_call 22; refine (few_any a _).mono ?_; rintro e w' ⟨rfl, rfl⟩; rw [d1])
    | (go_at_call 27; refine (palive_any _).mono ?_; rintro e w' ⟨rfl, k9, rfl⟩))
  go_ret
  exact ⟨rfl, _, rfl⟩
set_option maxHeartbeats 1000000 in
theorem walk_b_lt (n a b : Int) (w : World) (hs : n < 0) (ha : 0 ≤ a ∧ a ≤ 1048576) (hb : ¬ (0 ≤ b ∧ b ≤ 1048576)) :
    Calls Try.prog 8 #[.int .i64 n, .int .i64 a, .int .i64 b] w fun e w' => e = .returned (.bool true) ∧ ∃ k, w' = w.drewN k := by
  have HS := Lib.hid (fun w => sign_any n w)
  have E : Hid (cmpI n 0 = -1) := Lib.hid (cmpI_lt (by omega))
  have d1 := decide_eq_true ha
  have d2 := decide_eq_false hb
  have hab : ¬ a = b := by omega
  clear ha hb
  go_enter Try.func8, Try.ntmps8
  go_wp2_with (first
    | (go_at_call 28; refine (HS.out _).mono ?_; rintro e w' ⟨rfl, rfl⟩; rw [E.out])
    | (go_at_call_of 22 (Value.int IntKind.i64 a); refine (few_any a _).mono ?_; rintro e w' ⟨rfl, rfl⟩; rw [d1])
    | (go_at_call_of 22 (Value.int IntKind.i64 b); refine (few_any b _).mono ?_; rintro e w' ⟨rfl, rfl⟩; rw [d2])
    | (go_at_call 27; refine (palive_any _).mono ?_; rintro e w' ⟨rfl, k9, rfl⟩))
  go_ret
  exact ⟨rfl, _, rfl⟩
set_option maxHeartbeats 1000000 in
theorem walk_l_lt (n a b : Int) (w : World) (hs : n < 0) (ha : 0 ≤ a ∧ a ≤ 1048576) (hb : 0 ≤ b ∧ b ≤ 1048576) (h : a < b) :
    Calls Try.prog 8 #[.int .i64 n, .int .i64 a, .int .i64 b] w fun e w' => e = .returned (.bool true) ∧ ∃ k, w' = w.drewN k := by
  have HS := Lib.hid (fun w => sign_any n w)
  have E : Hid (cmpI n 0 = -1) := Lib.hid (cmpI_lt (by omega))
  have d1 := decide_eq_true ha
  have d2 := decide_eq_true hb
  obtain ⟨a1, a2⟩ := ha
  obtain ⟨b1, b2⟩ := hb
  have hab : ¬ a = b := by omega
  have D : Hid (cmpI b a = 1) := Lib.hid (cmpI_gt h)
  have G : Hid (farV a b = b - a) := by unfold Hid farV; split <;> omega
  have HD := Lib.hid (fun w => dir_any a b w)
  have HF := Lib.hid (fun w => far_any a b w a1 (by omega) b1 (by omega))
  go_enter Try.func8, Try.ntmps8
  go_wp2_with (first
    | (go_at_call 28; refine (HS.out _).mono ?_; rintro e w' ⟨rfl, rfl⟩; rw [E.out])
    | (go_at_call_of 22 (Value.int IntKind.i64 a); refine (few_any a _).mono ?_; rintro e w' ⟨rfl, rfl⟩; rw [d1])
    | (go_at_call_of 22 (Value.int IntKind.i64 b); refine (few_any b _).mono ?_; rintro e w' ⟨rfl, rfl⟩; rw [d2])
    | (go_at_call 29; refine (HD.out _).mono ?_; rintro e w' ⟨rfl, rfl⟩; rw [D.out])
    | (go_at_call 30; refine (HF.out _).mono ?_; rintro e w' ⟨rfl, rfl⟩; rw [G.out])
    | (go_at_call 27; refine (palive_any _).mono ?_; rintro e w' ⟨rfl, k9, rfl⟩))
  go_ret
  exact ⟨rfl, _, rfl⟩
set_option maxHeartbeats 1000000 in
theorem walk_g_lt (n a b : Int) (w : World) (hs : n < 0) (ha : 0 ≤ a ∧ a ≤ 1048576) (hb : 0 ≤ b ∧ b ≤ 1048576) (h : b < a) :
    Calls Try.prog 8 #[.int .i64 n, .int .i64 a, .int .i64 b] w fun e w' => e = .returned (.bool true) ∧ ∃ k, w' = w.drewN k := by
  have HS := Lib.hid (fun w => sign_any n w)
  have E : Hid (cmpI n 0 = -1) := Lib.hid (cmpI_lt (by omega))
  have d1 := decide_eq_true ha
  have d2 := decide_eq_true hb
  obtain ⟨a1, a2⟩ := ha
  obtain ⟨b1, b2⟩ := hb
  have hab : ¬ a = b := by omega
  have D : Hid (cmpI b a = -1) := Lib.hid (cmpI_lt h)
  have G : Hid (farV a b = a - b) := by unfold Hid farV; split <;> omega
  have HD := Lib.hid (fun w => dir_any a b w)
  have HF := Lib.hid (fun w => far_any a b w a1 (by omega) b1 (by omega))
  go_enter Try.func8, Try.ntmps8
  go_wp2_with (first
    | (go_at_call 28; refine (HS.out _).mono ?_; rintro e w' ⟨rfl, rfl⟩; rw [E.out])
    | (go_at_call_of 22 (Value.int IntKind.i64 a); refine (few_any a _).mono ?_; rintro e w' ⟨rfl, rfl⟩; rw [d1])
    | (go_at_call_of 22 (Value.int IntKind.i64 b); refine (few_any b _).mono ?_; rintro e w' ⟨rfl, rfl⟩; rw [d2])
    | (go_at_call 29; refine (HD.out _).mono ?_; rintro e w' ⟨rfl, rfl⟩; rw [D.out])
    | (go_at_call 30; refine (HF.out _).mono ?_; rintro e w' ⟨rfl, rfl⟩; rw [G.out])
    | (go_at_call 27; refine (palive_any _).mono ?_; rintro e w' ⟨rfl, k9, rfl⟩))
  go_ret
  exact ⟨rfl, _, rfl⟩
set_option maxHeartbeats 1000000 in
theorem walk_e_lt (n a : Int) (w : World) (hs : n < 0) (ha : 0 ≤ a ∧ a ≤ 1048576) :
    Calls Try.prog 8 #[.int .i64 n, .int .i64 a, .int .i64 a] w fun e w' => e = .returned (.bool true) ∧ ∃ k, w' = w.drewN k := by
  have HS := Lib.hid (fun w => sign_any n w)
  have E : Hid (cmpI n 0 = -1) := Lib.hid (cmpI_lt (by omega))
  have d1 := decide_eq_true ha
  obtain ⟨a1, a2⟩ := ha
  have D : Hid (cmpI a a = 0) := Lib.hid (cmpI_eq rfl)
  have G : Hid (farV a a = 0) := by unfold Hid farV; split <;> omega
  have HD := Lib.hid (fun w => dir_any a a w)
  have HF := Lib.hid (fun w => far_any a a w a1 (by omega) a1 (by omega))
  go_enter Try.func8, Try.ntmps8
  go_wp2_with (first
    | (go_at_call 28; refine (HS.out _).mono ?_; rintro e w' ⟨rfl, rfl⟩; rw [E.out])
    | (go_at_call 22; refine (few_any a _).mono ?_; rintro e w' ⟨rfl, rfl⟩; rw [d1])
    | (go_at_call 29; refine (HD.out _).mono ?_; rintro e w' ⟨rfl, rfl⟩; rw [D.out])
    | (go_at_call 30; refine (HF.out _).mono ?_; rintro e w' ⟨rfl, rfl⟩; rw [G.out])
    | (go_at_call 27; refine (palive_any _).mono ?_; rintro e w' ⟨rfl, k9, rfl⟩))
  go_ret
  exact ⟨rfl, _, rfl⟩
set_option maxHeartbeats 1000000 in
theorem walk_a_eq (n a b : Int) (w : World) (hs : n = 0) (ha : ¬ (0 ≤ a ∧ a ≤ 1048576)) :
    Calls Try.prog 8 #[.int .i64 n, .int .i64 a, .int .i64 b] w fun e w' => e = .returned (.bool true) ∧ ∃ k, w' = w.drewN k := by
  subst hs
  have HS := Lib.hid (fun w => sign_any 0 w)
  have E : Hid (cmpI 0 0 = 0) := Lib.hid (cmpI_eq (by omega))
  have d1 := decide_eq_false ha
  clear ha
  go_enter Try.func8, Try.ntmps8
  go_wp2_with (first
    | (go_at_call 28; refine (HS.out _).mono ?_; rintro e w' ⟨rfl, rfl⟩; rw [E.out])
    | (go_at_call 22; refine (few_any a _).mono ?_; rintro e w' ⟨rfl, rfl⟩; rw [d1])
    | (go_at_call 27; refine (palive_any _).mono ?_; rintro e w' ⟨rfl, k9, rfl⟩))
  go_ret
  exact ⟨rfl, _, rfl⟩
set_option maxHeartbeats 1000000 in
theorem walk_b_eq (n a b : Int) (w : World) (hs : n = 0) (ha : 0 ≤ a ∧ a ≤ 1048576) (hb : ¬ (0 ≤ b ∧ b ≤ 1048576)) :
    Calls Try.prog 8 #[.int .i64 n, .int .i64 a, .int .i64 b] w fun e w' => e = .returned (.bool true) ∧ ∃ k, w' = w.drewN k := by
  subst hs
  have HS := Lib.hid (fun w => sign_any 0 w)
  have E : Hid (cmpI 0 0 = 0) := Lib.hid (cmpI_eq (by omega))
  have d1 := decide_eq_true ha
  have d2 := decide_eq_false hb
  have hab : ¬ a = b := by omega
  clear ha hb
  go_enter Try.func8, Try.ntmps8
  go_wp2_with (first
    | (go_at_call 28; refine (HS.out _).mono ?_; rintro e w' ⟨rfl, rfl⟩; rw [E.out])
    | (go_at_call_of 22 (Value.int IntKind.i64 a); refine (few_any a _).mono ?_; rintro e w' ⟨rfl, rfl⟩; rw [d1])
    | (go_at_call_of 22 (Value.int IntKind.i64 b); refine (few_any b _).mono ?_; rintro e w' ⟨rfl, rfl⟩; rw [d2])
    | (go_at_call 27; refine (palive_any _).mono ?_; rintro e w' ⟨rfl, k9, rfl⟩))
  go_ret
  exact ⟨rfl, _, rfl⟩
set_option maxHeartbeats 1000000 in
theorem walk_l_eq (n a b : Int) (w : World) (hs : n = 0) (ha : 0 ≤ a ∧ a ≤ 1048576) (hb : 0 ≤ b ∧ b ≤ 1048576) (h : a < b) :
    Calls Try.prog 8 #[.int .i64 n, .int .i64 a, .int .i64 b] w fun e w' => e = .returned (.bool true) ∧ ∃ k, w' = w.drewN k := by
  subst hs
  have HS := Lib.hid (fun w => sign_any 0 w)
  have E : Hid (cmpI 0 0 = 0) := Lib.hid (cmpI_eq (by omega))
  have d1 := decide_eq_true ha
  have d2 := decide_eq_true hb
  obtain ⟨a1, a2⟩ := ha
  obtain ⟨b1, b2⟩ := hb
  have hab : ¬ a = b := by omega
  have D : Hid (cmpI b a = 1) := Lib.hid (cmpI_gt h)
  have G : Hid (farV a b = b - a) := by unfold Hid farV; split <;> omega
  have HD := Lib.hid (fun w => dir_any a b w)
  have HF := Lib.hid (fun w => far_any a b w a1 (by omega) b1 (by omega))
  go_enter Try.func8, Try.ntmps8
  go_wp2_with (first
    | (go_at_call 28; refine (HS.out _).mono ?_; rintro e w' ⟨rfl, rfl⟩; rw [E.out])
    | (go_at_call_of 22 (Value.int IntKind.i64 a); refine (few_any a _).mono ?_; rintro e w' ⟨rfl, rfl⟩; rw [d1])
    | (go_at_call_of 22 (Value.int IntKind.i64 b); refine (few_any b _).mono ?_; rintro e w' ⟨rfl, rfl⟩; rw [d2])
    | (go_at_call 29; refine (HD.out _).mono ?_; rintro e w' ⟨rfl, rfl⟩; rw [D.out])
    | (go_at_call 30; refine (HF.out _).mono ?_; rintro e w' ⟨rfl, rfl⟩; rw [G.out])
    | (go_at_call 27; refine (palive_any _).mono ?_; rintro e w' ⟨rfl, k9, rfl⟩))
  go_ret
  exact ⟨rfl, _, rfl⟩
set_option maxHeartbeats 1000000 in
theorem walk_g_eq (n a b : Int) (w : World) (hs : n = 0) (ha : 0 ≤ a ∧ a ≤ 1048576) (hb : 0 ≤ b ∧ b ≤ 1048576) (h : b < a) :
    Calls Try.prog 8 #[.int .i64 n, .int .i64 a, .int .i64 b] w fun e w' => e = .returned (.bool true) ∧ ∃ k, w' = w.drewN k := by
  subst hs
  have HS := Lib.hid (fun w => sign_any 0 w)
  have E : Hid (cmpI 0 0 = 0) := Lib.hid (cmpI_eq (by omega))
  have d1 := decide_eq_true ha
  have d2 := decide_eq_true hb
  obtain ⟨a1, a2⟩ := ha
  obtain ⟨b1, b2⟩ := hb
  have hab : ¬ a = b := by omega
  have D : Hid (cmpI b a = -1) := Lib.hid (cmpI_lt h)
  have G : Hid (farV a b = a - b) := by unfold Hid farV; split <;> omega
  have HD := Lib.hid (fun w => dir_any a b w)
  have HF := Lib.hid (fun w => far_any a b w a1 (by omega) b1 (by omega))
  go_enter Try.func8, Try.ntmps8
  go_wp2_with (first
    | (go_at_call 28; refine (HS.out _).mono ?_; rintro e w' ⟨rfl, rfl⟩; rw [E.out])
    | (go_at_call_of 22 (Value.int IntKind.i64 a); refine (few_any a _).mono ?_; rintro e w' ⟨rfl, rfl⟩; rw [d1])
    | (go_at_call_of 22 (Value.int IntKind.i64 b); refine (few_any b _).mono ?_; rintro e w' ⟨rfl, rfl⟩; rw [d2])
    | (go_at_call 29; refine (HD.out _).mono ?_; rintro e w' ⟨rfl, rfl⟩; rw [D.out])
    | (go_at_call 30; refine (HF.out _).mono ?_; rintro e w' ⟨rfl, rfl⟩; rw [G.out])
    | (go_at_call 27; refine (palive_any _).mono ?_; rintro e w' ⟨rfl, k9, rfl⟩))
  go_ret
  exact ⟨rfl, _, rfl⟩
set_option maxHeartbeats 1000000 in
theorem walk_e_eq (n a : Int) (w : World) (hs : n = 0) (ha : 0 ≤ a ∧ a ≤ 1048576) :
    Calls Try.prog 8 #[.int .i64 n, .int .i64 a, .int .i64 a] w fun e w' => e = .returned (.bool true) ∧ ∃ k, w' = w.drewN k := by
  subst hs
  have HS := Lib.hid (fun w => sign_any 0 w)
  have E : Hid (cmpI 0 0 = 0) := Lib.hid (cmpI_eq (by omega))
  have d1 := decide_eq_true ha
  obtain ⟨a1, a2⟩ := ha
  have D : Hid (cmpI a a = 0) := Lib.hid (cmpI_eq rfl)
  have G : Hid (farV a a = 0) := by unfold Hid farV; split <;> omega
  have HD := Lib.hid (fun w => dir_any a a w)
  have HF := Lib.hid (fun w => far_any a a w a1 (by omega) a1 (by omega))
  go_enter Try.func8, Try.ntmps8
  go_wp2_with (first
    | (go_at_call 28; refine (HS.out _).mono ?_; rintro e w' ⟨rfl, rfl⟩; rw [E.out])
    | (go_at_call 22; refine (few_any a _).mono ?_; rintro e w' ⟨rfl, rfl⟩; rw [d1])
    | (go_at_call 29; refine (HD.out _).mono ?_; rintro e w' ⟨rfl, rfl⟩; rw [D.out])
    | (go_at_call 30; refine (HF.out _).mono ?_; rintro e w' ⟨rfl, rfl⟩; rw [G.out])
    | (go_at_call 27; refine (palive_any _).mono ?_; rintro e w' ⟨rfl, k9, rfl⟩))
  go_ret
  exact ⟨rfl, _, rfl⟩
set_option maxHeartbeats 1000000 in
theorem walk_a_gt (n a b : Int) (w : World) (hs : 0 < n) (ha : ¬ (0 ≤ a ∧ a ≤ 1048576)) :
    Calls Try.prog 8 #[.int .i64 n, .int .i64 a, .int .i64 b] w fun e w' => e = .returned (.bool true) ∧ ∃ k, w' = w.drewN k := by
  have HS := Lib.hid (fun w => sign_any n w)
  have E : Hid (cmpI n 0 = 1) := Lib.hid (cmpI_gt (by omega))
  have d1 := decide_eq_false ha
  clear ha
  go_enter Try.func8, Try.ntmps8
  go_wp2_with (first
    | (go_at_call 28; refine (HS.out _).mono ?_; rintro e w' ⟨rfl, rfl⟩; rw [E.out])
    | (go_at_call 22; refine (few_any a _).mono ?_; rintro e w' ⟨rfl, rfl⟩; rw [d1])
    | (go_at_call 27; refine (palive_any _).mono ?_; rintro e w' ⟨rfl, k9, rfl⟩))
  go_ret
  exact ⟨rfl, _, rfl⟩
set_option maxHeartbeats 1000000 in
theorem walk_b_gt (n a b : Int) (w : World) (hs : 0 < n) (ha : 0 ≤ a ∧ a ≤ 1048576) (hb : ¬ (0 ≤ b ∧ b ≤ 1048576)) :
    Calls Try.prog 8 #[.int .i64 n, .int .i64 a, .int .i64 b] w fun e w' => e = .returned (.bool true) ∧ ∃ k, w' = w.drewN k := by
  have HS := Lib.hid (fun w => sign_any n w)
  have E : Hid (cmpI n 0 = 1) := Lib.hid (cmpI_gt (by omega))
  have d1 := decide_eq_true ha
  have d2 := decide_eq_false hb
  have hab : ¬ a = b := by omega
  clear ha hb
  go_enter Try.func8, Try.ntmps8
  go_wp2_with (first
    | (go_at_call 28; refine (HS.out _).mono ?_; rintro e w' ⟨rfl, rfl⟩; rw [E.out])
    | (go_at_call_of 22 (Value.int IntKind.i64 a); refine (few_any a _).mono ?_; rintro e w' ⟨rfl, rfl⟩; rw [d1])
    | (go_at_call_of 22 (Value.int IntKind.i64 b); refine (few_any b _).mono ?_; rintro e w' ⟨rfl, rfl⟩; rw [d2])
    | (go_at_call 27; refine (palive_any _).mono ?_; rintro e w' ⟨rfl, k9, rfl⟩))
  go_ret
  exact ⟨rfl, _, rfl⟩
set_option maxHeartbeats 1000000 in
theorem walk_l_gt (n a b : Int) (w : World) (hs : 0 < n) (ha : 0 ≤ a ∧ a ≤ 1048576) (hb : 0 ≤ b ∧ b ≤ 1048576) (h : a < b) :
    Calls Try.prog 8 #[.int .i64 n, .int .i64 a, .int .i64 b] w fun e w' => e = .returned (.bool true) ∧ ∃ k, w' = w.drewN k := by
  have HS := Lib.hid (fun w => sign_any n w)
  have E : Hid (cmpI n 0 = 1) := Lib.hid (cmpI_gt (by omega))
  have d1 := decide_eq_true ha
  have d2 := decide_eq_true hb
  obtain ⟨a1, a2⟩ := ha
  obtain ⟨b1, b2⟩ := hb
  have hab : ¬ a = b := by omega
  have D : Hid (cmpI b a = 1) := Lib.hid (cmpI_gt h)
  have G : Hid (farV a b = b - a) := by unfold Hid farV; split <;> omega
  have HD := Lib.hid (fun w => dir_any a b w)
  have HF := Lib.hid (fun w => far_any a b w a1 (by omega) b1 (by omega))
  go_enter Try.func8, Try.ntmps8
  go_wp2_with (first
    | (go_at_call 28; refine (HS.out _).mono ?_; rintro e w' ⟨rfl, rfl⟩; rw [E.out])
    | (go_at_call_of 22 (Value.int IntKind.i64 a); refine (few_any a _).mono ?_; rintro e w' ⟨rfl, rfl⟩; rw [d1])
    | (go_at_call_of 22 (Value.int IntKind.i64 b); refine (few_any b _).mono ?_; rintro e w' ⟨rfl, rfl⟩; rw [d2])
    | (go_at_call 29; refine (HD.out _).mono ?_; rintro e w' ⟨rfl, rfl⟩; rw [D.out])
    | (go_at_call 30; refine (HF.out _).mono ?_; rintro e w' ⟨rfl, rfl⟩; rw [G.out])
    | (go_at_call 27; refine (palive_any _).mono ?_; rintro e w' ⟨rfl, k9, rfl⟩))
  go_ret
  exact ⟨rfl, _, rfl⟩
set_option maxHeartbeats 1000000 in
theorem walk_g_gt (n a b : Int) (w : World) (hs : 0 < n) (ha : 0 ≤ a ∧ a ≤ 1048576) (hb : 0 ≤ b ∧ b ≤ 1048576) (h : b < a) :
    Calls Try.prog 8 #[.int .i64 n, .int .i64 a, .int .i64 b] w fun e w' => e = .returned (.bool true) ∧ ∃ k, w' = w.drewN k := by
  have HS := Lib.hid (fun w => sign_any n w)
  have E : Hid (cmpI n 0 = 1) := Lib.hid (cmpI_gt (by omega))
  have d1 := decide_eq_true ha
  have d2 := decide_eq_true hb
  obtain ⟨a1, a2⟩ := ha
  obtain ⟨b1, b2⟩ := hb
  have hab : ¬ a = b := by omega
  have D : Hid (cmpI b a = -1) := Lib.hid (cmpI_lt h)
  have G : Hid (farV a b = a - b) := by unfold Hid farV; split <;> omega
  have HD := Lib.hid (fun w => dir_any a b w)
  have HF := Lib.hid (fun w => far_any a b w a1 (by omega) b1 (by omega))
  go_enter Try.func8, Try.ntmps8
  go_wp2_with (first
    | (go_at_call 28; refine (HS.out _).mono ?_; rintro e w' ⟨rfl, rfl⟩; rw [E.out])
    | (go_at_call_of 22 (Value.int IntKind.i64 a); refine (few_any a _).mono ?_; rintro e w' ⟨rfl, rfl⟩; rw [d1])
    | (go_at_call_of 22 (Value.int IntKind.i64 b); refine (few_any b _).mono ?_; rintro e w' ⟨rfl, rfl⟩; rw [d2])
    | (go_at_call 29; refine (HD.out _).mono ?_; rintro e w' ⟨rfl, rfl⟩; rw [D.out])
    | (go_at_call 30; refine (HF.out _).mono ?_; rintro e w' ⟨rfl, rfl⟩; rw [G.out])
    | (go_at_call 27; refine (palive_any _).mono ?_; rintro e w' ⟨rfl, k9, rfl⟩))
  go_ret
  exact ⟨rfl, _, rfl⟩
set_option maxHeartbeats 1000000 in
theorem walk_e_gt (n a : Int) (w : World) (hs : 0 < n) (ha : 0 ≤ a ∧ a ≤ 1048576) :
    Calls Try.prog 8 #[.int .i64 n, .int .i64 a, .int .i64 a] w fun e w' => e = .returned (.bool true) ∧ ∃ k, w' = w.drewN k := by
  have HS := Lib.hid (fun w => sign_any n w)
  have E : Hid (cmpI n 0 = 1) := Lib.hid (cmpI_gt (by omega))
  have d1 := decide_eq_true ha
  obtain ⟨a1, a2⟩ := ha
  have D : Hid (cmpI a a = 0) := Lib.hid (cmpI_eq rfl)
  have G : Hid (farV a a = 0) := by unfold Hid farV; split <;> omega
  have HD := Lib.hid (fun w => dir_any a a w)
  have HF := Lib.hid (fun w => far_any a a w a1 (by omega) a1 (by omega))
  go_enter Try.func8, Try.ntmps8
  go_wp2_with (first
    | (go_at_call 28; refine (HS.out _).mono ?_; rintro e w' ⟨rfl, rfl⟩; rw [E.out])
    | (go_at_call 22; refine (few_any a _).mono ?_; rintro e w' ⟨rfl, rfl⟩; rw [d1])
    | (go_at_call 29; refine (HD.out _).mono ?_; rintro e w' ⟨rfl, rfl⟩; rw [D.out])
    | (go_at_call 30; refine (HF.out _).mono ?_; rintro e w' ⟨rfl, rfl⟩; rw [G.out])
    | (go_at_call 27; refine (palive_any _).mono ?_; rintro e w' ⟨rfl, k9, rfl⟩))
  go_ret
  exact ⟨rfl, _, rfl⟩
theorem walk {n a b : Int} (w0 : (Lit.int .i64 n).wf = true) (w1 : (Lit.int .i64 a).wf = true) (w2 : (Lit.int .i64 b).wf = true) (w : World) :
    Calls Try.prog 8 #[.int .i64 n, .int .i64 a, .int .i64 b] w fun e w' => e = .returned (.bool true) ∧ Below w.heap.size w w' := by
  have fin : Calls Try.prog 8 #[.int .i64 n, .int .i64 a, .int .i64 b] w fun e w' => e = .returned (.bool true) ∧ ∃ k, w' = w.drewN k := by
    by_cases ha : 0 ≤ a ∧ a ≤ 1048576
    · by_cases hb : 0 ≤ b ∧ b ≤ 1048576
      · rcases Int.lt_trichotomy a b with h | h | h
        · rcases Int.lt_trichotomy n 0 with s | s | s
          · exact walk_l_lt n a b w s ha hb h
          · exact walk_l_eq n a b w s ha hb h
          · exact walk_l_gt n a b w s ha hb h
        · subst h
          rcases Int.lt_trichotomy n 0 with s | s | s
          · exact walk_e_lt n a w s ha
          · exact walk_e_eq n a w s ha
          · exact walk_e_gt n a w s ha
        · rcases Int.lt_trichotomy n 0 with s | s | s
          · exact walk_g_lt n a b w s ha hb h
          · exact walk_g_eq n a b w s ha hb h
          · exact walk_g_gt n a b w s ha hb h
      · rcases Int.lt_trichotomy n 0 with s | s | s
        · exact walk_b_lt n a b w s ha hb
        · exact walk_b_eq n a b w s ha hb
        · exact walk_b_gt n a b w s ha hb
    · rcases Int.lt_trichotomy n 0 with s | s | s
      · exact walk_a_lt n a b w s ha
      · exact walk_a_eq n a b w s ha
      · exact walk_a_gt n a b w s ha
  exact fin.mono fun e w' ⟨h1, k, h2⟩ => ⟨h1, h2 ▸ below_drewN (Below.refl _ _) k⟩

end Go.Proofs.Ytkepplkfjcoemac.placeWays
