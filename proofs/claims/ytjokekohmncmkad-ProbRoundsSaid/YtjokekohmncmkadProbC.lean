/- Contracts of prob.doorTime, Round and of the document's Round. -/
import Derived.Test.YtjokekohmncmkadRows
import Derived.Test.YtjokekohmncmkadRowKit
import Derived.Test.YtjokekohmncmkadProbMath
import Derived.Test.YtjokekohmncmkadProbA
import Derived.Test.YtjokekohmncmkadProbB
import Derived.WalkKit
import Derived.IntWalk
import Derived.Lib.Hide
import Derived.Lib.SmallJoins
import Derived.WalkSpells
import Derived.WalkLawsBesides
import Derived.Deep.QuietTactic
import Derived.BigQuiet
import Derived.Below
namespace Go.Proofs.Ytjokekohmncmkad
open Go.RowKit
set_option linter.unusedSimpArgs false
set_option linter.unusedVariables false
def dcut (n : Int) : Int := max 0 (min n 193)
theorem dcut_bd (n : Int) : 0 ≤ dcut n ∧ dcut n ≤ 193 := by unfold dcut; omega
def doorV (a b c : Int) : Int := dcut a + dcut b + dcut c
set_option maxHeartbeats 1000000 in
theorem door_any (s0 s1 s2 s3 s4 s5 s6 s7 s9 s10 s11 s12 : Int) (A : Option Addr) (n c : Nat) (w : World) :
    Calls Try.prog 68 #[.agg #[.int .i64 s0, .int .i64 s1, .int .i64 s2, .int .i64 s3, .int .i64 s4, .int .i64 s5, .int .i64 s6, .int .i64 s7, .slice A n c, .int .i64 s9, .int .i64 s10, .int .i64 s11, .int .i64 s12]] w fun e w' => e = .returned (.int .i64 (doorV s4 s5 s6)) ∧ Below w.heap.size w w' := by
  have d4 := dcut_bd s4
  have d5 := dcut_bd s5
  have d6 := dcut_bd s6
  have B := Lib.hid (Joins.below_alloc2 w (.cells #[.int .i64 s0, .int .i64 s1, .int .i64 s2, .int .i64 s3, .int .i64 s4, .int .i64 s5, .int .i64 s6, .int .i64 s7, .slice A n c, .int .i64 s9, .int .i64 s10, .int .i64 s11, .int .i64 s12] 48) (.cells #[.int .i64 s4, .int .i64 s5, .int .i64 s6] 3))
  go_enter Try.func68, Try.ntmps68
  go_wp2_with fail
  go_loop [3, 14] (fun s i => (i = .int .i64 0 ∧ s = .int .i64 0) ∨ (i = .int .i64 1 ∧ s = .int .i64 (dcut s4)) ∨ (i = .int .i64 2 ∧ s = .int .i64 (dcut s4 + dcut s5)) ∨ (i = .int .i64 3 ∧ s = .int .i64 (dcut s4 + dcut s5 + dcut s6))) (fun _ i => 3 - (intOf i).toNat)
  case atStart => exact .inl ⟨rfl, rfl⟩
  case round =>
    rcases hrel with ⟨rfl, rfl⟩ | ⟨rfl, rfl⟩ | ⟨rfl, rfl⟩ | ⟨rfl, rfl⟩
    · go_wp2_with fail
      all_goals
        go_round
        case rel => exact .inr (.inl ⟨rfl, pvint (by unfold dcut; omega)⟩)
        case measure => simp [intOf]
    · go_wp2_with fail
      all_goals
        go_round
        case rel => exact .inr (.inr (.inl ⟨rfl, pvint (by unfold dcut; omega)⟩))
        case measure => simp [intOf]
    · go_wp2_with fail
      all_goals
        go_round
        case rel => exact .inr (.inr (.inr ⟨rfl, pvint (by unfold dcut; omega)⟩))
        case measure => simp [intOf]
    · go_wp2_with fail
      go_ret
      exact ⟨rfl, B.out⟩
/-- may a round be told? -/
def RdOk (s0 s1 s4 s5 s6 s7 p : Int) : Prop := PR (s0 - 1) p ∧ doorV s4 s5 s6 ≤ 192 ∧ 0 ≤ s1 ∧ s1 ≤ 16 ∧ 0 ≤ s7 ∧ s7 ≤ 64
instance (s0 s1 s4 s5 s6 s7 p : Int) : Decidable (RdOk s0 s1 s4 s5 s6 s7 p) := by unfold RdOk; infer_instance
/-- how long it takes, by how high, at how many floors, how long a door takes -/
def rdN (h s g d t p : Int) : Int := (h * 2 * g + s * d + 4294967295) / 4294967296 + d + 2 * p * t
def rdV (s0 s1 s4 s5 s6 s7 p : Int) : Int := if RdOk s0 s1 s4 s5 s6 s7 p then rdN (highV (s0 - 1).toNat p.toNat : Nat) (stopsV (s0 - 1).toNat p.toNat : Nat) s1 (doorV s4 s5 s6) s7 p else 0
def rdE (s0 s1 s4 s5 s6 s7 p : Int) : Int := if RdOk s0 s1 s4 s5 s6 s7 p then 0 else 22
theorem rd_no {s0 s1 s4 s5 s6 s7 p : Int} (h : ¬ RdOk s0 s1 s4 s5 s6 s7 p) : rdV s0 s1 s4 s5 s6 s7 p = 0 ∧ rdE s0 s1 s4 s5 s6 s7 p = 22 := by
  unfold rdV rdE; rw [if_neg h, if_neg h]; exact ⟨rfl, rfl⟩
theorem rd_yes {s0 s1 s4 s5 s6 s7 p : Int} (h : RdOk s0 s1 s4 s5 s6 s7 p) : rdV s0 s1 s4 s5 s6 s7 p = rdN (highV (s0 - 1).toNat p.toNat : Nat) (stopsV (s0 - 1).toNat p.toNat : Nat) s1 (doorV s4 s5 s6) s7 p ∧ rdE s0 s1 s4 s5 s6 s7 p = 0 := by
  unfold rdV rdE; rw [if_pos h, if_pos h]; exact ⟨rfl, rfl⟩
theorem mul_bd {a b m k : Int} (a0 : 0 ≤ a) (a1 : a ≤ m) (b0 : 0 ≤ b) (b1 : b ≤ k) (m0 : 0 ≤ m) : 0 ≤ a * b ∧ a * b ≤ m * k :=
  ⟨Int.mul_nonneg a0 b0, Int.mul_le_mul a1 b1 b0 m0⟩
theorem high_at {s0 p : Int} (h : PR (s0 - 1) p) (w : World) : Calls Try.prog 29 #[.int .i64 (s0 - 1), .int .i64 p] w fun e w' => e = .returned (.tuple #[.int .u64 (highV (s0 - 1).toNat p.toNat : Nat), .int .i64 0]) ∧ w = w' := by
  unfold PR at h
  obtain ⟨F, hF⟩ := Int.eq_ofNat_of_zero_le (show 0 ≤ s0 - 1 by omega)
  obtain ⟨P, rfl⟩ := Int.eq_ofNat_of_zero_le (show 0 ≤ p by omega)
  rw [hF, Int.toNat_natCast, Int.toNat_natCast]
  exact high_ok F P w (by omega) (by omega) (by omega)
theorem stops_at {s0 p : Int} (h : PR (s0 - 1) p) (w : World) : Calls Try.prog 28 #[.int .i64 (s0 - 1), .int .i64 p] w fun e w' => e = .returned (.tuple #[.int .u64 (stopsV (s0 - 1).toNat p.toNat : Nat), .int .i64 0]) ∧ w = w' := by
  unfold PR at h
  obtain ⟨F, hF⟩ := Int.eq_ofNat_of_zero_le (show 0 ≤ s0 - 1 by omega)
  obtain ⟨P, rfl⟩ := Int.eq_ofNat_of_zero_le (show 0 ≤ p by omega)
  rw [hF, Int.toNat_natCast, Int.toNat_natCast]
  exact stops_ok F P w (by omega) (by omega) (by omega)
theorem rhigh_at {s0 p : Int} (h : PR (s0 - 1) p) (w : World) : Calls Try.prog 34 #[.int .i64 (s0 - 1), .int .i64 p] w fun e w' => e = .returned (.int .u64 (highV (s0 - 1).toNat p.toNat : Nat)) ∧ w = w' := by
  unfold PR at h
  obtain ⟨F, hF⟩ := Int.eq_ofNat_of_zero_le (show 0 ≤ s0 - 1 by omega)
  obtain ⟨P, rfl⟩ := Int.eq_ofNat_of_zero_le (show 0 ≤ p by omega)
  rw [hF, Int.toNat_natCast, Int.toNat_natCast]
  exact rhigh_ok F P w (by omega) (by omega) (by omega)
theorem rstops_at {s0 p : Int} (h : PR (s0 - 1) p) (w : World) : Calls Try.prog 33 #[.int .i64 (s0 - 1), .int .i64 p] w fun e w' => e = .returned (.int .u64 (stopsV (s0 - 1).toNat p.toNat : Nat)) ∧ w = w' := by
  unfold PR at h
  obtain ⟨F, hF⟩ := Int.eq_ofNat_of_zero_le (show 0 ≤ s0 - 1 by omega)
  obtain ⟨P, rfl⟩ := Int.eq_ofNat_of_zero_le (show 0 ≤ p by omega)
  rw [hF, Int.toNat_natCast, Int.toNat_natCast]
  exact rstops_ok F P w (by omega) (by omega) (by omega)
theorem val_bd {s0 p : Int} (h : PR (s0 - 1) p) : ((highV (s0 - 1).toNat p.toNat : Nat) : Int) ≤ 545460846592 ∧ ((stopsV (s0 - 1).toNat p.toNat : Nat) : Int) ≤ 545460846592 := by
  unfold PR at h
  have h1 := high_most (s0 - 1).toNat p.toNat
  have h2 := stops_most (s0 - 1).toNat p.toNat
  have h3 : (s0 - 1).toNat ≤ 127 := by omega
  constructor <;> omega
set_option maxHeartbeats 1000000 in
theorem round_min (s0 s1 s2 s3 s4 s5 s6 s7 s9 s10 s11 s12 : Int) (A : Option Addr) (n c : Nat) (p : Int) (w : World) (h : s0 = -9223372036854775808) :
    Calls Try.prog 30 #[.agg #[.int .i64 s0, .int .i64 s1, .int .i64 s2, .int .i64 s3, .int .i64 s4, .int .i64 s5, .int .i64 s6, .int .i64 s7, .slice A n c, .int .i64 s9, .int .i64 s10, .int .i64 s11, .int .i64 s12], .int .i64 p] w fun e w' => e = .returned (.tuple #[.int .i64 0, .int .i64 22]) ∧ Below w.heap.size w w' := by
  obtain ⟨v, hv, hv2⟩ : ∃ v, IntKind.i64.wrap (s0 - 1) = v ∧ 127 < v := ⟨_, rfl, by rw [h]; decide⟩
  have H := Lib.hid (fun w => high_bad v p w (by unfold PR; omega))
  clear h
  go_enter Try.func30, Try.ntmps30
  go_wp2_with (go_at_call 29; refine (H.out _).mono ?_; rintro e w' ⟨rfl, rfl⟩)
  go_ret2
  exact ⟨rfl, (Below.refl _ _).alloc (Nat.le_refl _) _⟩
set_option maxHeartbeats 1000000 in
theorem round_pr (s0 s1 s2 s3 s4 s5 s6 s7 s9 s10 s11 s12 : Int) (A : Option Addr) (n c : Nat) (p : Int) (w : World) (h0 : -9223372036854775808 < s0) (h1 : s0 ≤ 9223372036854775807) (h : ¬ PR (s0 - 1) p) :
    Calls Try.prog 30 #[.agg #[.int .i64 s0, .int .i64 s1, .int .i64 s2, .int .i64 s3, .int .i64 s4, .int .i64 s5, .int .i64 s6, .int .i64 s7, .slice A n c, .int .i64 s9, .int .i64 s10, .int .i64 s11, .int .i64 s12], .int .i64 p] w fun e w' => e = .returned (.tuple #[.int .i64 0, .int .i64 22]) ∧ Below w.heap.size w w' := by
  have H := Lib.hid (fun w => high_bad (s0 - 1) p w h)
  clear h
  go_enter Try.func30, Try.ntmps30
  go_wp2_with (go_at_call 29; refine (H.out _).mono ?_; rintro e w' ⟨rfl, rfl⟩)
  go_ret2
  exact ⟨rfl, (Below.refl _ _).alloc (Nat.le_refl _) _⟩
set_option maxHeartbeats 1000000 in
theorem round_d (s0 s1 s2 s3 s4 s5 s6 s7 s9 s10 s11 s12 : Int) (A : Option Addr) (n c : Nat) (p : Int) (w : World) (h : PR (s0 - 1) p) (hbad : 192 < doorV s4 s5 s6) :
    Calls Try.prog 30 #[.agg #[.int .i64 s0, .int .i64 s1, .int .i64 s2, .int .i64 s3, .int .i64 s4, .int .i64 s5, .int .i64 s6, .int .i64 s7, .slice A n c, .int .i64 s9, .int .i64 s10, .int .i64 s11, .int .i64 s12], .int .i64 p] w fun e w' => e = .returned (.tuple #[.int .i64 0, .int .i64 22]) ∧ Below w.heap.size w w' := by
  have h' := h
  unfold PR at h'
  obtain ⟨g1, g2, g3, g4⟩ := h'
  have V := val_bd h
  have HH := fun w => high_at h w
  have HS := fun w => stops_at h w
  obtain ⟨hv, hhv⟩ : ∃ x : Int, ((highV (s0 - 1).toNat p.toNat : Nat) : Int) = x := ⟨_, rfl⟩
  obtain ⟨sv, hsv⟩ : ∃ x : Int, ((stopsV (s0 - 1).toNat p.toNat : Nat) : Int) = x := ⟨_, rfl⟩
  have v0 : 0 ≤ hv := by omega
  have v1 : 0 ≤ sv := by omega
  rw [hhv] at HH V
  rw [hsv] at HS V
  obtain ⟨v2, v3⟩ := V
  have DD := fun w => door_any s0 s1 s2 s3 s4 s5 s6 s7 s9 s10 s11 s12 A n c w
  have dd4 := dcut_bd s4
  have dd5 := dcut_bd s5
  have dd6 := dcut_bd s6
  have d0 : 0 ≤ doorV s4 s5 s6 := by unfold doorV; omega
  have d1 : doorV s4 s5 s6 ≤ 600 := by unfold doorV; omega
  obtain ⟨d, hd⟩ : ∃ d, doorV s4 s5 s6 = d := ⟨_, rfl⟩
  rw [hd] at DD d0 d1 hbad
  have KH := Lib.hid HH
  have KS := Lib.hid HS
  have KD := Lib.hid DD
  clear HH HS DD hhv hsv hd h dd4 dd5 dd6
  go_enter Try.func30, Try.ntmps30
  go_wp2_with fail
  refine (KH.out _).mono ?_
  rintro e w1 ⟨rfl, rfl⟩
  go_wp2_with fail
  refine (KS.out _).mono ?_
  rintro e w2 ⟨rfl, rfl⟩
  go_wp2_with fail
  refine (KD.out _).mono ?_
  rintro e w3 ⟨rfl, hb3⟩
  have l := fun j v (h : #[(.int .i64 s0 : Value), .int .i64 s1, .int .i64 s2, .int .i64 s3, .int .i64 s4, .int .i64 s5, .int .i64 s6, .int .i64 s7, .slice A n c, .int .i64 s9, .int .i64 s10, .int .i64 s11, .int .i64 s12][j]? = some v) => (hb3.cell (p := ⟨w.heap.size, j, none⟩) (by simp)).trans ((World.cell?_alloc_mark w _ _ _ j).trans h)
  have l1 := l 1 _ rfl
  have l7 := l 7 _ rfl
  have B := Lib.hid (((Below.refl w.heap.size w).alloc (Nat.le_refl _) (.cells #[.int .i64 s0, .int .i64 s1, .int .i64 s2, .int .i64 s3, .int .i64 s4, .int .i64 s5, .int .i64 s6, .int .i64 s7, .slice A n c, .int .i64 s9, .int .i64 s10, .int .i64 s11, .int .i64 s12] 48)).trans (Joins.below_le hb3 (by simp)))
  clear l hb3
  go_wp2_with fail
  go_ret2
  exact ⟨rfl, B.out⟩
set_option maxHeartbeats 1000000 in
theorem round_g0 (s0 s1 s2 s3 s4 s5 s6 s7 s9 s10 s11 s12 : Int) (A : Option Addr) (n c : Nat) (p : Int) (w : World) (h : PR (s0 - 1) p) (no0 : ¬ 192 < doorV s4 s5 s6) (hbad : s1 < 0) :
    Calls Try.prog 30 #[.agg #[.int .i64 s0, .int .i64 s1, .int .i64 s2, .int .i64 s3, .int .i64 s4, .int .i64 s5, .int .i64 s6, .int .i64 s7, .slice A n c, .int .i64 s9, .int .i64 s10, .int .i64 s11, .int .i64 s12], .int .i64 p] w fun e w' => e = .returned (.tuple #[.int .i64 0, .int .i64 22]) ∧ Below w.heap.size w w' := by
  have h' := h
  unfold PR at h'
  obtain ⟨g1, g2, g3, g4⟩ := h'
  have V := val_bd h
  have HH := fun w => high_at h w
  have HS := fun w => stops_at h w
  obtain ⟨hv, hhv⟩ : ∃ x : Int, ((highV (s0 - 1).toNat p.toNat : Nat) : Int) = x := ⟨_, rfl⟩
  obtain ⟨sv, hsv⟩ : ∃ x : Int, ((stopsV (s0 - 1).toNat p.toNat : Nat) : Int) = x := ⟨_, rfl⟩
  have v0 : 0 ≤ hv := by omega
  have v1 : 0 ≤ sv := by omega
  rw [hhv] at HH V
  rw [hsv] at HS V
  obtain ⟨v2, v3⟩ := V
  have DD := fun w => door_any s0 s1 s2 s3 s4 s5 s6 s7 s9 s10 s11 s12 A n c w
  have dd4 := dcut_bd s4
  have dd5 := dcut_bd s5
  have dd6 := dcut_bd s6
  have d0 : 0 ≤ doorV s4 s5 s6 := by unfold doorV; omega
  have d1 : doorV s4 s5 s6 ≤ 600 := by unfold doorV; omega
  obtain ⟨d, hd⟩ : ∃ d, doorV s4 s5 s6 = d := ⟨_, rfl⟩
  rw [hd] at DD d0 d1 no0
  have KH := Lib.hid HH
  have KS := Lib.hid HS
  have KD := Lib.hid DD
  clear HH HS DD hhv hsv hd h dd4 dd5 dd6
  go_enter Try.func30, Try.ntmps30
  go_wp2_with fail
  refine (KH.out _).mono ?_
  rintro e w1 ⟨rfl, rfl⟩
  go_wp2_with fail
  refine (KS.out _).mono ?_
  rintro e w2 ⟨rfl, rfl⟩
  go_wp2_with fail
  refine (KD.out _).mono ?_
  rintro e w3 ⟨rfl, hb3⟩
  have l := fun j v (h : #[(.int .i64 s0 : Value), .int .i64 s1, .int .i64 s2, .int .i64 s3, .int .i64 s4, .int .i64 s5, .int .i64 s6, .int .i64 s7, .slice A n c, .int .i64 s9, .int .i64 s10, .int .i64 s11, .int .i64 s12][j]? = some v) => (hb3.cell (p := ⟨w.heap.size, j, none⟩) (by simp)).trans ((World.cell?_alloc_mark w _ _ _ j).trans h)
  have l1 := l 1 _ rfl
  have l7 := l 7 _ rfl
  have B := Lib.hid (((Below.refl w.heap.size w).alloc (Nat.le_refl _) (.cells #[.int .i64 s0, .int .i64 s1, .int .i64 s2, .int .i64 s3, .int .i64 s4, .int .i64 s5, .int .i64 s6, .int .i64 s7, .slice A n c, .int .i64 s9, .int .i64 s10, .int .i64 s11, .int .i64 s12] 48)).trans (Joins.below_le hb3 (by simp)))
  clear l hb3
  go_wp2_with fail
  go_ret2
  exact ⟨rfl, B.out⟩
set_option maxHeartbeats 1000000 in
theorem round_g1 (s0 s1 s2 s3 s4 s5 s6 s7 s9 s10 s11 s12 : Int) (A : Option Addr) (n c : Nat) (p : Int) (w : World) (h : PR (s0 - 1) p) (no0 : ¬ 192 < doorV s4 s5 s6) (no1 : ¬ s1 < 0) (hbad : 16 < s1) :
    Calls Try.prog 30 #[.agg #[.int .i64 s0, .int .i64 s1, .int .i64 s2, .int .i64 s3, .int .i64 s4, .int .i64 s5, .int .i64 s6, .int .i64 s7, .slice A n c, .int .i64 s9, .int .i64 s10, .int .i64 s11, .int .i64 s12], .int .i64 p] w fun e w' => e = .returned (.tuple #[.int .i64 0, .int .i64 22]) ∧ Below w.heap.size w w' := by
  have h' := h
  unfold PR at h'
  obtain ⟨g1, g2, g3, g4⟩ := h'
  have V := val_bd h
  have HH := fun w => high_at h w
  have HS := fun w => stops_at h w
  obtain ⟨hv, hhv⟩ : ∃ x : Int, ((highV (s0 - 1).toNat p.toNat : Nat) : Int) = x := ⟨_, rfl⟩
  obtain ⟨sv, hsv⟩ : ∃ x : Int, ((stopsV (s0 - 1).toNat p.toNat : Nat) : Int) = x := ⟨_, rfl⟩
  have v0 : 0 ≤ hv := by omega
  have v1 : 0 ≤ sv := by omega
  rw [hhv] at HH V
  rw [hsv] at HS V
  obtain ⟨v2, v3⟩ := V
  have DD := fun w => door_any s0 s1 s2 s3 s4 s5 s6 s7 s9 s10 s11 s12 A n c w
  have dd4 := dcut_bd s4
  have dd5 := dcut_bd s5
  have dd6 := dcut_bd s6
  have d0 : 0 ≤ doorV s4 s5 s6 := by unfold doorV; omega
  have d1 : doorV s4 s5 s6 ≤ 600 := by unfold doorV; omega
  obtain ⟨d, hd⟩ : ∃ d, doorV s4 s5 s6 = d := ⟨_, rfl⟩
  rw [hd] at DD d0 d1 no0
  have KH := Lib.hid HH
  have KS := Lib.hid HS
  have KD := Lib.hid DD
  clear HH HS DD hhv hsv hd h dd4 dd5 dd6
  go_enter Try.func30, Try.ntmps30
  go_wp2_with fail
  refine (KH.out _).mono ?_
  rintro e w1 ⟨rfl, rfl⟩
  go_wp2_with fail
  refine (KS.out _).mono ?_
  rintro e w2 ⟨rfl, rfl⟩
  go_wp2_with fail
  refine (KD.out _).mono ?_
  rintro e w3 ⟨rfl, hb3⟩
  have l := fun j v (h : #[(.int .i64 s0 : Value), .int .i64 s1, .int .i64 s2, .int .i64 s3, .int .i64 s4, .int .i64 s5, .int .i64 s6, .int .i64 s7, .slice A n c, .int .i64 s9, .int .i64 s10, .int .i64 s11, .int .i64 s12][j]? = some v) => (hb3.cell (p := ⟨w.heap.size, j, none⟩) (by simp)).trans ((World.cell?_alloc_mark w _ _ _ j).trans h)
  have l1 := l 1 _ rfl
  have l7 := l 7 _ rfl
  have B := Lib.hid (((Below.refl w.heap.size w).alloc (Nat.le_refl _) (.cells #[.int .i64 s0, .int .i64 s1, .int .i64 s2, .int .i64 s3, .int .i64 s4, .int .i64 s5, .int .i64 s6, .int .i64 s7, .slice A n c, .int .i64 s9, .int .i64 s10, .int .i64 s11, .int .i64 s12] 48)).trans (Joins.below_le hb3 (by simp)))
  clear l hb3
  go_wp2_with fail
  go_ret2
  exact ⟨rfl, B.out⟩
set_option maxHeartbeats 1000000 in
theorem round_t0 (s0 s1 s2 s3 s4 s5 s6 s7 s9 s10 s11 s12 : Int) (A : Option Addr) (n c : Nat) (p : Int) (w : World) (h : PR (s0 - 1) p) (no0 : ¬ 192 < doorV s4 s5 s6) (no1 : ¬ s1 < 0) (no2 : ¬ 16 < s1) (hbad : s7 < 0) :
    Calls Try.prog 30 #[.agg #[.int .i64 s0, .int .i64 s1, .int .i64 s2, .int .i64 s3, .int .i64 s4, .int .i64 s5, .int .i64 s6, .int .i64 s7, .slice A n c, .int .i64 s9, .int .i64 s10, .int .i64 s11, .int .i64 s12], .int .i64 p] w fun e w' => e = .returned (.tuple #[.int .i64 0, .int .i64 22]) ∧ Below w.heap.size w w' := by
  have h' := h
  unfold PR at h'
  obtain ⟨g1, g2, g3, g4⟩ := h'
  have V := val_bd h
  have HH := fun w => high_at h w
  have HS := fun w => stops_at h w
  obtain ⟨hv, hhv⟩ : ∃ x : Int, ((highV (s0 - 1).toNat p.toNat : Nat) : Int) = x := ⟨_, rfl⟩
  obtain ⟨sv, hsv⟩ : ∃ x : Int, ((stopsV (s0 - 1).toNat p.toNat : Nat) : Int) = x := ⟨_, rfl⟩
  have v0 : 0 ≤ hv := by omega
  have v1 : 0 ≤ sv := by omega
  rw [hhv] at HH V
  rw [hsv] at HS V
  obtain ⟨v2, v3⟩ := V
  have DD := fun w => door_any s0 s1 s2 s3 s4 s5 s6 s7 s9 s10 s11 s12 A n c w
  have dd4 := dcut_bd s4
  have dd5 := dcut_bd s5
  have dd6 := dcut_bd s6
  have d0 : 0 ≤ doorV s4 s5 s6 := by unfold doorV; omega
  have d1 : doorV s4 s5 s6 ≤ 600 := by unfold doorV; omega
  obtain ⟨d, hd⟩ : ∃ d, doorV s4 s5 s6 = d := ⟨_, rfl⟩
  rw [hd] at DD d0 d1 no0
  have KH := Lib.hid HH
  have KS := Lib.hid HS
  have KD := Lib.hid DD
  clear HH HS DD hhv hsv hd h dd4 dd5 dd6
  go_enter Try.func30, Try.ntmps30
  go_wp2_with fail
  refine (KH.out _).mono ?_
  rintro e w1 ⟨rfl, rfl⟩
  go_wp2_with fail
  refine (KS.out _).mono ?_
  rintro e w2 ⟨rfl, rfl⟩
  go_wp2_with fail
  refine (KD.out _).mono ?_
  rintro e w3 ⟨rfl, hb3⟩
  have l := fun j v (h : #[(.int .i64 s0 : Value), .int .i64 s1, .int .i64 s2, .int .i64 s3, .int .i64 s4, .int .i64 s5, .int .i64 s6, .int .i64 s7, .slice A n c, .int .i64 s9, .int .i64 s10, .int .i64 s11, .int .i64 s12][j]? = some v) => (hb3.cell (p := ⟨w.heap.size, j, none⟩) (by simp)).trans ((World.cell?_alloc_mark w _ _ _ j).trans h)
  have l1 := l 1 _ rfl
  have l7 := l 7 _ rfl
  have B := Lib.hid (((Below.refl w.heap.size w).alloc (Nat.le_refl _) (.cells #[.int .i64 s0, .int .i64 s1, .int .i64 s2, .int .i64 s3, .int .i64 s4, .int .i64 s5, .int .i64 s6, .int .i64 s7, .slice A n c, .int .i64 s9, .int .i64 s10, .int .i64 s11, .int .i64 s12] 48)).trans (Joins.below_le hb3 (by simp)))
  clear l hb3
  go_wp2_with fail
  go_ret2
  exact ⟨rfl, B.out⟩
set_option maxHeartbeats 1000000 in
theorem round_t1 (s0 s1 s2 s3 s4 s5 s6 s7 s9 s10 s11 s12 : Int) (A : Option Addr) (n c : Nat) (p : Int) (w : World) (h : PR (s0 - 1) p) (no0 : ¬ 192 < doorV s4 s5 s6) (no1 : ¬ s1 < 0) (no2 : ¬ 16 < s1) (no3 : ¬ s7 < 0) (hbad : 64 < s7) :
    Calls Try.prog 30 #[.agg #[.int .i64 s0, .int .i64 s1, .int .i64 s2, .int .i64 s3, .int .i64 s4, .int .i64 s5, .int .i64 s6, .int .i64 s7, .slice A n c, .int .i64 s9, .int .i64 s10, .int .i64 s11, .int .i64 s12], .int .i64 p] w fun e w' => e = .returned (.tuple #[.int .i64 0, .int .i64 22]) ∧ Below w.heap.size w w' := by
  have h' := h
  unfold PR at h'
  obtain ⟨g1, g2, g3, g4⟩ := h'
  have V := val_bd h
  have HH := fun w => high_at h w
  have HS := fun w => stops_at h w
  obtain ⟨hv, hhv⟩ : ∃ x : Int, ((highV (s0 - 1).toNat p.toNat : Nat) : Int) = x := ⟨_, rfl⟩
  obtain ⟨sv, hsv⟩ : ∃ x : Int, ((stopsV (s0 - 1).toNat p.toNat : Nat) : Int) = x := ⟨_, rfl⟩
  have v0 : 0 ≤ hv := by omega
  have v1 : 0 ≤ sv := by omega
  rw [hhv] at HH V
  rw [hsv] at HS V
  obtain ⟨v2, v3⟩ := V
  have DD := fun w => door_any s0 s1 s2 s3 s4 s5 s6 s7 s9 s10 s11 s12 A n c w
  have dd4 := dcut_bd s4
  have dd5 := dcut_bd s5
  have dd6 := dcut_bd s6
  have d0 : 0 ≤ doorV s4 s5 s6 := by unfold doorV; omega
  have d1 : doorV s4 s5 s6 ≤ 600 := by unfold doorV; omega
  obtain ⟨d, hd⟩ : ∃ d, doorV s4 s5 s6 = d := ⟨_, rfl⟩
  rw [hd] at DD d0 d1 no0
  have KH := Lib.hid HH
  have KS := Lib.hid HS
  have KD := Lib.hid DD
  clear HH HS DD hhv hsv hd h dd4 dd5 dd6
  go_enter Try.func30, Try.ntmps30
  go_wp2_with fail
  refine (KH.out _).mono ?_
  rintro e w1 ⟨rfl, rfl⟩
  go_wp2_with fail
  refine (KS.out _).mono ?_
  rintro e w2 ⟨rfl, rfl⟩
  go_wp2_with fail
  refine (KD.out _).mono ?_
  rintro e w3 ⟨rfl, hb3⟩
  have l := fun j v (h : #[(.int .i64 s0 : Value), .int .i64 s1, .int .i64 s2, .int .i64 s3, .int .i64 s4, .int .i64 s5, .int .i64 s6, .int .i64 s7, .slice A n c, .int .i64 s9, .int .i64 s10, .int .i64 s11, .int .i64 s12][j]? = some v) => (hb3.cell (p := ⟨w.heap.size, j, none⟩) (by simp)).trans ((World.cell?_alloc_mark w _ _ _ j).trans h)
  have l1 := l 1 _ rfl
  have l7 := l 7 _ rfl
  have B := Lib.hid (((Below.refl w.heap.size w).alloc (Nat.le_refl _) (.cells #[.int .i64 s0, .int .i64 s1, .int .i64 s2, .int .i64 s3, .int .i64 s4, .int .i64 s5, .int .i64 s6, .int .i64 s7, .slice A n c, .int .i64 s9, .int .i64 s10, .int .i64 s11, .int .i64 s12] 48)).trans (Joins.below_le hb3 (by simp)))
  clear l hb3
  go_wp2_with fail
  go_ret2
  exact ⟨rfl, B.out⟩
set_option maxHeartbeats 2000000 in
theorem round_ok (s0 s1 s2 s3 s4 s5 s6 s7 s9 s10 s11 s12 : Int) (A : Option Addr) (n c : Nat) (p : Int) (w : World) (h : PR (s0 - 1) p) (y1 : doorV s4 s5 s6 ≤ 192) (y2 : 0 ≤ s1) (y3 : s1 ≤ 16) (y4 : 0 ≤ s7) (y5 : s7 ≤ 64) :
    Calls Try.prog 30 #[.agg #[.int .i64 s0, .int .i64 s1, .int .i64 s2, .int .i64 s3, .int .i64 s4, .int .i64 s5, .int .i64 s6, .int .i64 s7, .slice A n c, .int .i64 s9, .int .i64 s10, .int .i64 s11, .int .i64 s12], .int .i64 p] w fun e w' => e = .returned (.tuple #[.int .i64 (rdN (highV (s0 - 1).toNat p.toNat : Nat) (stopsV (s0 - 1).toNat p.toNat : Nat) s1 (doorV s4 s5 s6) s7 p), .int .i64 0]) ∧ Below w.heap.size w w' := by
  have h' := h
  unfold PR at h'
  obtain ⟨g1, g2, g3, g4⟩ := h'
  have V := val_bd h
  have HH := fun w => high_at h w
  have HS := fun w => stops_at h w
  obtain ⟨hv, hhv⟩ : ∃ x : Int, ((highV (s0 - 1).toNat p.toNat : Nat) : Int) = x := ⟨_, rfl⟩
  obtain ⟨sv, hsv⟩ : ∃ x : Int, ((stopsV (s0 - 1).toNat p.toNat : Nat) : Int) = x := ⟨_, rfl⟩
  have v0 : 0 ≤ hv := by omega
  have v1 : 0 ≤ sv := by omega
  rw [hhv] at HH V
  rw [hsv] at HS V
  obtain ⟨v2, v3⟩ := V
  have DD := fun w => door_any s0 s1 s2 s3 s4 s5 s6 s7 s9 s10 s11 s12 A n c w
  have dd4 := dcut_bd s4
  have dd5 := dcut_bd s5
  have dd6 := dcut_bd s6
  have d0 : 0 ≤ doorV s4 s5 s6 := by unfold doorV; omega
  have d1 : doorV s4 s5 s6 ≤ 600 := by unfold doorV; omega
  obtain ⟨d, hd⟩ : ∃ d, doorV s4 s5 s6 = d := ⟨_, rfl⟩
  rw [hd] at DD d0 d1 y1
  have KH := Lib.hid HH
  have KS := Lib.hid HS
  have KD := Lib.hid DD
  rw [hhv, hsv, hd]
  clear HH HS DD hhv hsv hd h dd4 dd5 dd6
  have m1 := mul_bd (m := 1090921693184) (k := 16) (show 0 ≤ hv * 2 by omega) (by omega) y2 y3 (by omega)
  have m2 := mul_bd (m := 545460846592) (k := 192) v1 v3 d0 y1 (by omega)
  have m3 := mul_bd (m := 128) (k := 64) (show 0 ≤ 2 * p by omega) (by omega) y4 y5 (by omega)
  have E := Lib.hid (show rdN hv sv s1 d s7 p = (hv * 2 * s1 + sv * d + 4294967295) / 4294967296 + d + 2 * p * s7 from rfl)
  have ea : hv * (2 * s1) = hv * 2 * s1 := by rw [Int.mul_assoc]
  obtain ⟨x, hx⟩ : ∃ x, hv * 2 * s1 = x := ⟨_, rfl⟩
  obtain ⟨y, hy⟩ : ∃ y, sv * d = y := ⟨_, rfl⟩
  obtain ⟨u, hu⟩ : ∃ u, 2 * p * s7 = u := ⟨_, rfl⟩
  have W1 : IntKind.u64.wrap (hv * 2 * s1) = x := by rw [hx, u64_in (by omega) (by omega)]
  have W1' : IntKind.u64.wrap (hv * (2 * s1)) = x := by rw [ea, hx, u64_in (by omega) (by omega)]
  have W2 : IntKind.u64.wrap (sv * d) = y := by rw [hy, u64_in (by omega) (by omega)]
  have W3 : IntKind.i64.wrap (2 * p * s7) = u := by rw [hu]; exact IntWalk.i64_in _ (by omega)
  have x0 : 0 ≤ x := by omega
  have x1 : x ≤ 17454747090944 := by omega
  have z0 : 0 ≤ y := by omega
  have z1 : y ≤ 104728482545664 := by omega
  have u0 : 0 ≤ u := by omega
  have u1 : u ≤ 8192 := by omega
  have E2 := Lib.hid (show rdN hv sv s1 d s7 p = (x + y + 4294967295) / 4294967296 + d + u by rw [E.out, hx, hy, hu])
  clear m1 m2 m3 E ea hx hy hu
  clear W1'
  go_enter Try.func30, Try.ntmps30
  go_wp2_with fail
  refine (KH.out _).mono ?_
  rintro e w1 ⟨rfl, rfl⟩
  go_wp2_with fail
  refine (KS.out _).mono ?_
  rintro e w2 ⟨rfl, rfl⟩
  go_wp2_with fail
  refine (KD.out _).mono ?_
  rintro e w3 ⟨rfl, hb3⟩
  have l := fun j v (h : #[(.int .i64 s0 : Value), .int .i64 s1, .int .i64 s2, .int .i64 s3, .int .i64 s4, .int .i64 s5, .int .i64 s6, .int .i64 s7, .slice A n c, .int .i64 s9, .int .i64 s10, .int .i64 s11, .int .i64 s12][j]? = some v) => (hb3.cell (p := ⟨w.heap.size, j, none⟩) (by simp)).trans ((World.cell?_alloc_mark w _ _ _ j).trans h)
  have l1 := l 1 _ rfl
  have l7 := l 7 _ rfl
  have B := Lib.hid (((Below.refl w.heap.size w).alloc (Nat.le_refl _) (.cells #[.int .i64 s0, .int .i64 s1, .int .i64 s2, .int .i64 s3, .int .i64 s4, .int .i64 s5, .int .i64 s6, .int .i64 s7, .slice A n c, .int .i64 s9, .int .i64 s10, .int .i64 s11, .int .i64 s12] 48)).trans (Joins.below_le hb3 (by simp)))
  clear l hb3
  go_wp2_with fail
  go_ret2
  exact ⟨pret2 (by rw [E2.out]; omega) rfl, B.out⟩
theorem round_any (s0 s1 s2 s3 s4 s5 s6 s7 s9 s10 s11 s12 : Int) (A : Option Addr) (n c : Nat) (p : Int) (w : World) (a0 : -9223372036854775808 ≤ s0) (a1 : s0 ≤ 9223372036854775807) :
    Calls Try.prog 30 #[.agg #[.int .i64 s0, .int .i64 s1, .int .i64 s2, .int .i64 s3, .int .i64 s4, .int .i64 s5, .int .i64 s6, .int .i64 s7, .slice A n c, .int .i64 s9, .int .i64 s10, .int .i64 s11, .int .i64 s12], .int .i64 p] w fun e w' => e = .returned (.tuple #[.int .i64 (rdV s0 s1 s4 s5 s6 s7 p), .int .i64 (rdE s0 s1 s4 s5 s6 s7 p)]) ∧ Below w.heap.size w w' := by
  by_cases h : PR (s0 - 1) p
  · by_cases c0 : 192 < doorV s4 s5 s6
    · have E := rd_no (s0 := s0) (s1 := s1) (s4 := s4) (s5 := s5) (s6 := s6) (s7 := s7) (p := p) (by unfold RdOk; omega)
      rw [E.1, E.2]; exact round_d s0 s1 s2 s3 s4 s5 s6 s7 s9 s10 s11 s12 A n c p w h c0
    by_cases c1 : s1 < 0
    · have E := rd_no (s0 := s0) (s1 := s1) (s4 := s4) (s5 := s5) (s6 := s6) (s7 := s7) (p := p) (by unfold RdOk; omega)
      rw [E.1, E.2]; exact round_g0 s0 s1 s2 s3 s4 s5 s6 s7 s9 s10 s11 s12 A n c p w h c0 c1
    by_cases c2 : 16 < s1
    · have E := rd_no (s0 := s0) (s1 := s1) (s4 := s4) (s5 := s5) (s6 := s6) (s7 := s7) (p := p) (by unfold RdOk; omega)
      rw [E.1, E.2]; exact round_g1 s0 s1 s2 s3 s4 s5 s6 s7 s9 s10 s11 s12 A n c p w h c0 c1 c2
    by_cases c3 : s7 < 0
    · have E := rd_no (s0 := s0) (s1 := s1) (s4 := s4) (s5 := s5) (s6 := s6) (s7 := s7) (p := p) (by unfold RdOk; omega)
      rw [E.1, E.2]; exact round_t0 s0 s1 s2 s3 s4 s5 s6 s7 s9 s10 s11 s12 A n c p w h c0 c1 c2 c3
    by_cases c4 : 64 < s7
    · have E := rd_no (s0 := s0) (s1 := s1) (s4 := s4) (s5 := s5) (s6 := s6) (s7 := s7) (p := p) (by unfold RdOk; omega)
      rw [E.1, E.2]; exact round_t1 s0 s1 s2 s3 s4 s5 s6 s7 s9 s10 s11 s12 A n c p w h c0 c1 c2 c3 c4
    have E := rd_yes (s0 := s0) (s1 := s1) (s4 := s4) (s5 := s5) (s6 := s6) (s7 := s7) (p := p) ⟨h, by omega, by omega, by omega, by omega, by omega⟩
    rw [E.1, E.2]; exact round_ok s0 s1 s2 s3 s4 s5 s6 s7 s9 s10 s11 s12 A n c p w h (by omega) (by omega) (by omega) (by omega) (by omega)
  · have E := rd_no (s0 := s0) (s1 := s1) (s4 := s4) (s5 := s5) (s6 := s6) (s7 := s7) (p := p) (fun x => h x.1)
    rw [E.1, E.2]
    by_cases hm : s0 = -9223372036854775808
    · exact round_min s0 s1 s2 s3 s4 s5 s6 s7 s9 s10 s11 s12 A n c p w hm
    · exact round_pr s0 s1 s2 s3 s4 s5 s6 s7 s9 s10 s11 s12 A n c p w (by omega) a1 h
end Go.Proofs.Ytjokekohmncmkad
