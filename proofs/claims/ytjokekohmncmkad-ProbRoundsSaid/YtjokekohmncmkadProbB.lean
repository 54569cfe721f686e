/- Contracts of prob.check, beyond, Stops, High and of the document's. -/
import Derived.Test.YtjokekohmncmkadRows
import Derived.Test.YtjokekohmncmkadProbMath
import Derived.Test.YtjokekohmncmkadProbA
import Derived.WalkKit
import Derived.IntWalk
import Derived.Lib.Hide
import Derived.WalkSpells
import Derived.WalkLawsBesides
import Derived.Deep.QuietTactic
import Derived.BigQuiet
namespace Go.Proofs.Ytjokekohmncmkad
open Go.RowKit
set_option linter.unusedSimpArgs false
set_option linter.unusedVariables false
def PR (f p : Int) : Prop := 1 ≤ f ∧ f ≤ 127 ∧ 0 ≤ p ∧ p ≤ 64
instance (f p : Int) : Decidable (PR f p) := by unfold PR; infer_instance
def ckV (f p : Int) : Int := if PR f p then 0 else 22
theorem ck_yes {f p : Int} (h : PR f p) : ckV f p = 0 := by unfold ckV; rw [if_pos h]
theorem ck_no {f p : Int} (h : ¬ PR f p) : ckV f p = 22 := by unfold ckV; rw [if_neg h]
set_option maxHeartbeats 400000 in
theorem check_any (f p : Int) (w : World) : Calls Try.prog 66 #[.int .i64 f, .int .i64 p] w fun e w' => e = .returned (.int .i64 (ckV f p)) ∧ w = w' := by
  by_cases h1 : f < 1
  · have E := Lib.hid (ck_no (f := f) (p := p) (by unfold PR; omega))
    go_enter Try.func66, Try.ntmps66
    go_wp2_with fail
    go_ret
    exact ⟨by rw [E.out]; rfl, rfl⟩
  by_cases h2 : 128 ≤ f
  · have E := Lib.hid (ck_no (f := f) (p := p) (by unfold PR; omega))
    go_enter Try.func66, Try.ntmps66
    go_wp2_with fail
    go_ret
    exact ⟨by rw [E.out]; rfl, rfl⟩
  by_cases h3 : p < 0
  · have E := Lib.hid (ck_no (f := f) (p := p) (by unfold PR; omega))
    go_enter Try.func66, Try.ntmps66
    go_wp2_with fail
    go_ret
    exact ⟨by rw [E.out]; rfl, rfl⟩
  by_cases h4 : 64 < p
  · have E := Lib.hid (ck_no (f := f) (p := p) (by unfold PR; omega))
    go_enter Try.func66, Try.ntmps66
    go_wp2_with fail
    go_ret
    exact ⟨by rw [E.out]; rfl, rfl⟩
  have E := Lib.hid (ck_yes (f := f) (p := p) (by unfold PR; omega))
  go_enter Try.func66, Try.ntmps66
  go_wp2_with fail
  go_ret
  exact ⟨by rw [E.out]; rfl, rfl⟩
theorem pretB {a b : Bool} (h : a = b) : Ending.returned (.bool a) = .returned (.bool b) := by rw [h]
set_option maxHeartbeats 400000 in
theorem right_any (f p : Int) (w : World) : Calls Try.prog 32 #[.int .i64 f, .int .i64 p] w fun e w' => e = .returned (.bool (decide (PR f p))) ∧ w = w' := by
  by_cases h1 : 1 ≤ f
  · by_cases h2 : f ≤ 127
    · by_cases h3 : 0 ≤ p
      · by_cases h4 : p ≤ 64
        · have E := Lib.hid (show decide (PR f p) = true by rw [decide_eq_true_iff]; unfold PR; omega)
          go_enter Try.func32, Try.ntmps32
          go_wp2_with fail
          go_ret
          exact ⟨pretB (by rw [E.out]), rfl⟩
        · have E := Lib.hid (show decide (PR f p) = false by rw [decide_eq_false_iff_not]; unfold PR; omega)
          go_enter Try.func32, Try.ntmps32
          go_wp2_with fail
          go_ret
          exact ⟨pretB (by rw [E.out]), rfl⟩
      · have E := Lib.hid (show decide (PR f p) = false by rw [decide_eq_false_iff_not]; unfold PR; omega)
        go_enter Try.func32, Try.ntmps32
        go_wp2_with fail
        go_ret
        exact ⟨pretB (by rw [E.out]), rfl⟩
    · have E := Lib.hid (show decide (PR f p) = false by rw [decide_eq_false_iff_not]; unfold PR; omega)
      go_enter Try.func32, Try.ntmps32
      go_wp2_with fail
      go_ret
      exact ⟨pretB (by rw [E.out]), rfl⟩
  · have E := Lib.hid (show decide (PR f p) = false by rw [decide_eq_false_iff_not]; unfold PR; omega)
    go_enter Try.func32, Try.ntmps32
    go_wp2_with fail
    go_ret
    exact ⟨pretB (by rw [E.out]), rfl⟩
theorem powV_part {i F p : Nat} (hi : i ≤ F) (h0 : 0 < F) (hF : F ≤ 1073741824) (hp : p ≤ 1000) : powV (ptV i F) p = (pw (partV i F) p : Nat) := by
  unfold powV pwN
  rw [(pt_nat h0 hi hF).1]
  have := partV_le hi h0
  rw [show (min ((partV i F : Nat) : Int) 4294967296).toNat = partV i F by omega, show (min (p : Int) 1000).toNat = p by omega]
set_option maxHeartbeats 400000 in
theorem beyond_any (i F p : Nat) (w : World) (hi : i ≤ F) (h0 : 0 < F) (hF : F ≤ 127) (hp : p ≤ 64) :
    Calls Try.prog 67 #[.int .i64 i, .int .i64 F, .int .i64 p] w fun e w' => e = .returned (.int .u64 (4294967296 - (pw (partV i F) p : Nat))) ∧ w = w' := by
  have P := fun w => part_any i F w
  have W := fun w => power_any (ptV i F) p w (by rw [(pt_nat h0 hi (by omega)).1]; omega) (by rw [(pt_nat h0 hi (by omega)).1]; have := partV_le hi h0; omega)
  rw [powV_part hi h0 (by omega) (by omega)] at W
  have hl := pw_le (partV_le hi h0) p
  obtain ⟨a, ha⟩ : ∃ a, ptV i F = a := ⟨_, rfl⟩
  obtain ⟨b, hb⟩ : ∃ b, ptE i F = b := ⟨_, rfl⟩
  obtain ⟨y, hy⟩ : ∃ y, pw (partV i F) p = y := ⟨_, rfl⟩
  rw [ha, hb] at P
  rw [ha, hy] at W
  rw [hy] at hl ⊢
  have HP := Lib.hid P
  have HW := Lib.hid W
  clear P W ha hb hy
  go_enter Try.func67, Try.ntmps67
  go_wp2_with (first
    | (go_at_call 21; refine (HP.out _).mono ?_; rintro e w' ⟨rfl, rfl⟩)
    | (go_at_call 25; refine (HW.out _).mono ?_; rintro e w' ⟨rfl, rfl⟩))
  go_ret
  exact ⟨rfl, rfl⟩
theorem beyond_int (i : Int) (F p : Nat) (w : World) (i0 : 0 ≤ i) (hi : i ≤ F) (h0 : 0 < F) (hF : F ≤ 127) (hp : p ≤ 64) :
    Calls Try.prog 67 #[.int .i64 i, .int .i64 F, .int .i64 p] w fun e w' => e = .returned (.int .u64 (4294967296 - (pw (partV i.toNat F) p : Nat))) ∧ w = w' := by
  obtain ⟨k, rfl⟩ := Int.eq_ofNat_of_zero_le i0
  rw [Int.toNat_natCast]
  exact beyond_any k F p w (by omega) h0 hF hp
theorem u64_in {n : Int} (h0 : 0 ≤ n) (h1 : n ≤ 18446744073709551615) : IntKind.u64.wrap n = n := by rw [IntKind.wrap_u64]; omega
set_option maxHeartbeats 400000 in
theorem stops_bad (f p : Int) (w : World) (h : ¬ PR f p) : Calls Try.prog 28 #[.int .i64 f, .int .i64 p] w fun e w' => e = .returned (.tuple #[.int .u64 0, .int .i64 22]) ∧ w = w' := by
  have C := fun w => check_any f p w
  rw [ck_no h] at C
  have HC := Lib.hid C
  clear C h
  go_enter Try.func28, Try.ntmps28
  go_wp2_with (go_at_call 66; refine (HC.out _).mono ?_; rintro e w' ⟨rfl, rfl⟩)
  go_ret2
  exact ⟨rfl, rfl⟩
set_option maxHeartbeats 400000 in
theorem high_bad (f p : Int) (w : World) (h : ¬ PR f p) : Calls Try.prog 29 #[.int .i64 f, .int .i64 p] w fun e w' => e = .returned (.tuple #[.int .u64 0, .int .i64 22]) ∧ w = w' := by
  have C := fun w => check_any f p w
  rw [ck_no h] at C
  have HC := Lib.hid C
  clear C h
  go_enter Try.func29, Try.ntmps29
  go_wp2_with (go_at_call 66; refine (HC.out _).mono ?_; rintro e w' ⟨rfl, rfl⟩)
  go_ret2
  exact ⟨rfl, rfl⟩
set_option maxHeartbeats 400000 in
theorem stops_ok (F p : Nat) (w : World) (h0 : 0 < F) (hF : F ≤ 127) (hp : p ≤ 64) : Calls Try.prog 28 #[.int .i64 F, .int .i64 p] w fun e w' => e = .returned (.tuple #[.int .u64 (stopsV F p : Nat), .int .i64 0]) ∧ w = w' := by
  have C := fun w => check_any F p w
  rw [ck_yes (show PR F p by unfold PR; omega)] at C
  have B := fun w => beyond_int ((F : Int) - 1) F p w (by omega) (by omega) h0 hF hp
  rw [show ((F : Int) - 1).toNat = F - 1 by omega] at B
  have hl := pw_le (partV_le (n := F - 1) (m := F) (by omega) h0) p
  have E : stopsV F p = F * 4294967296 - F * pw (partV (F - 1) F) p := rfl
  obtain ⟨y, hy⟩ : ∃ y, pw (partV (F - 1) F) p = y := ⟨_, rfl⟩
  rw [hy] at B hl E
  have hFy : F * y ≤ F * 4294967296 := Nat.mul_le_mul_left _ hl
  have M : (F : Int) * (4294967296 - (y : Int)) = (stopsV F p : Nat) := by
    rw [Int.mul_sub, E, Int.natCast_sub hFy, Int.natCast_mul, Int.natCast_mul]; rfl
  have hb := stops_most F p
  obtain ⟨s, hs⟩ : ∃ s, stopsV F p = s := ⟨_, rfl⟩
  rw [hs] at M hb ⊢
  have W1 : IntKind.u64.wrap ((F : Int) * (4294967296 - (y : Int))) = (s : Int) := by rw [M, u64_in (by omega) (by omega)]
  have HC := Lib.hid C
  have HB := Lib.hid B
  have HW := Lib.hid W1
  clear C B E hy hFy M hs W1
  go_enter Try.func28, Try.ntmps28
  go_wp2_with (first
    | (go_at_call 66; refine (HC.out _).mono ?_; rintro e w' ⟨rfl, rfl⟩)
    | (go_at_call 67; refine (HB.out _).mono ?_; rintro e w' ⟨rfl, rfl⟩))
  go_ret2
  exact ⟨pret2 HW.out rfl, rfl⟩
set_option maxHeartbeats 400000 in
theorem rstops_ok (F p : Nat) (w : World) (h0 : 0 < F) (hF : F ≤ 127) (hp : p ≤ 64) : Calls Try.prog 33 #[.int .i64 F, .int .i64 p] w fun e w' => e = .returned (.int .u64 (stopsV F p : Nat)) ∧ w = w' := by
  have P := fun w => rpart_any ((F - 1 : Nat) : Int) F w
  have W := fun w => rpower_any (ptV (F - 1 : Nat) F) p w (by rw [(pt_nat h0 (by omega) (by omega)).1]; omega) (by rw [(pt_nat h0 (by omega) (by omega)).1]; have := partV_le (n := F - 1) (m := F) (by omega) h0; omega)
  rw [powV_part (by omega) h0 (by omega) (by omega)] at W
  rw [show ((F - 1 : Nat) : Int) = (F : Int) - 1 by omega] at P W
  have hl := pw_le (partV_le (n := F - 1) (m := F) (by omega) h0) p
  have E : stopsV F p = F * 4294967296 - F * pw (partV (F - 1) F) p := rfl
  obtain ⟨a, ha⟩ : ∃ a, ptV ((F : Int) - 1) F = a := ⟨_, rfl⟩
  obtain ⟨b, hb⟩ : ∃ b, ptE ((F : Int) - 1) F = b := ⟨_, rfl⟩
  obtain ⟨y, hy⟩ : ∃ y, pw (partV (F - 1) F) p = y := ⟨_, rfl⟩
  rw [ha, hb] at P
  rw [ha, hy] at W
  rw [hy] at hl E
  have hFy : F * y ≤ F * 4294967296 := Nat.mul_le_mul_left _ hl
  obtain ⟨t, ht⟩ : ∃ t, F * y = t := ⟨_, rfl⟩
  rw [ht] at hFy E
  have W1 : IntKind.u64.wrap ((F : Int) * (y : Int)) = (t : Int) := by rw [← Int.natCast_mul, ht, u64_in (by omega) (by omega)]
  have HP := Lib.hid P
  have HW := Lib.hid W
  have HE := Lib.hid E
  clear P W ha hb hy ht E
  go_enter Try.func33, Try.ntmps33
  go_wp2_with (first
    | (go_at_call 22; refine (HP.out _).mono ?_; rintro e w' ⟨rfl, rfl⟩)
    | (go_at_call 26; refine (HW.out _).mono ?_; rintro e w' ⟨rfl, rfl⟩))
  go_ret
  exact ⟨pretU (by rw [HE.out]; omega), rfl⟩
set_option maxHeartbeats 1000000 in
theorem high_ok (F p : Nat) (w : World) (h0 : 0 < F) (hF : F ≤ 127) (hp : p ≤ 64) : Calls Try.prog 29 #[.int .i64 F, .int .i64 p] w fun e w' => e = .returned (.tuple #[.int .u64 (highV F p : Nat), .int .i64 0]) ∧ w = w' := by
  have C := fun w => check_any F p w
  rw [ck_yes (show PR F p by unfold PR; omega)] at C
  have HC := Lib.hid C
  clear C
  by_cases hp0 : p = 0
  · subst hp0
    have E := Lib.hid (show highV F 0 = 0 from rfl)
    go_enter Try.func29, Try.ntmps29
    go_wp2_with (go_at_call 66; refine (HC.out _).mono ?_; rintro e w' ⟨rfl, rfl⟩)
    go_ret2
    exact ⟨pret2 (by rw [E.out]; rfl) rfl, rfl⟩
  · have B := Lib.hid (fun (i : Int) w (i0 : 0 ≤ i) (hi : i ≤ F) => beyond_int i F p w i0 hi h0 hF hp)
    have E := Lib.hid (show highV F p = F * 4294967296 - pws F p (F - 1) by unfold highV; rw [if_neg hp0])
    have PL := Lib.hid (fun k (hk : k ≤ F) => pws_le (f := F) (p := p) h0 k hk)
    have PW := Lib.hid (fun k (hk : k ≤ F) => pw_le (partV_le hk h0) p)
    have q0 : ((p : Int) == 0) = false := by rw [beq_eq_false_iff_ne]; omega
    have q1 : (p == 0) = false := by rw [beq_eq_false_iff_ne]; exact hp0
    clear hp0
    go_enter Try.func29, Try.ntmps29
    go_wp2_with (go_at_call 66; refine (HC.out _).mono ?_; rintro e w' ⟨rfl, rfl⟩)
    go_loop [7, 8] (fun h i => ∃ j : Nat, j < F ∧ i = .int .i64 ((j : Int) + 1) ∧ h = .int .u64 (((j : Int) + 1) * 4294967296 - (pws F p j : Nat))) (fun _ i => 200 - (intOf i).toNat)
    case atStart => exact ⟨0, by omega, rfl, pvint (by rw [pws_zero]; rfl)⟩
    case round =>
      obtain ⟨j, hj, rfl, rfl⟩ := hrel
      have l1 := PL.out j (by omega)
      have S := pws_succ F p j
      obtain ⟨x, hx⟩ : ∃ x, pws F p j = x := ⟨_, rfl⟩
      rw [hx] at l1 S ⊢
      by_cases h : j + 1 < F
      · have lt : (j : Int) + 1 < (F : Int) := by omega
        have l2 := PW.out (j + 1) (by omega)
        obtain ⟨y, hy⟩ : ∃ y, pw (partV (j + 1) F) p = y := ⟨_, rfl⟩
        rw [hy] at l2 S
        have HB := Lib.hid (show ∀ w, _ from fun w => by
          have := B.out ((j : Int) + 1) w (by omega) (by omega)
          rw [show ((j : Int) + 1).toNat = j + 1 by omega, hy] at this
          exact this)
        have HS := Lib.hid S
        clear S hx hy
        go_wp2_with (go_at_call 67; refine (HB.out _).mono ?_; rintro e w' ⟨rfl, rfl⟩)
        go_round
        case rel => exact ⟨j + 1, by omega, pvint (by omega), pvint (by rw [HS.out]; omega)⟩
        case measure => simp [intOf]; omega
      · have ge : ¬ (j : Int) + 1 < (F : Int) := by omega
        have HX := Lib.hid hx
        have HJ := Lib.hid (show F - 1 = j by omega)
        clear S hx
        go_wp2_with fail
        go_ret2
        exact ⟨pret2 (by rw [E.out, HJ.out, HX.out]; omega) rfl, rfl⟩
set_option maxHeartbeats 1000000 in
theorem rhigh_ok (F p : Nat) (w : World) (h0 : 0 < F) (hF : F ≤ 127) (hp : p ≤ 64) : Calls Try.prog 34 #[.int .i64 F, .int .i64 p] w fun e w' => e = .returned (.int .u64 (highV F p : Nat)) ∧ w = w' := by
  by_cases hp0 : p = 0
  · subst hp0
    have E := Lib.hid (show highV F 0 = 0 from rfl)
    go_enter Try.func34, Try.ntmps34
    go_wp2_with fail
    go_ret
    exact ⟨pretU (by rw [E.out]; rfl), rfl⟩
  · have E := Lib.hid (show highV F p = F * 4294967296 - pws F p (F - 1) by unfold highV; rw [if_neg hp0])
    have PL := Lib.hid (fun k (hk : k ≤ F) => pws_le (f := F) (p := p) h0 k hk)
    have PW := Lib.hid (fun k (hk : k ≤ F) => pw_le (partV_le hk h0) p)
    have PA := Lib.hid (fun (k : Nat) (hk : k ≤ F) w => rpower_any (ptV k F) p w (by rw [(pt_nat h0 hk (by omega)).1]; omega) (by rw [(pt_nat h0 hk (by omega)).1]; have := partV_le hk h0; omega))
    have q0 : ((p : Int) == 0) = false := by rw [beq_eq_false_iff_ne]; omega
    have q1 : (p == 0) = false := by rw [beq_eq_false_iff_ne]; exact hp0
    clear hp0
    go_enter Try.func34, Try.ntmps34
    go_wp2_with fail
    go_loop [5, 6] (fun h i => ∃ j : Nat, j < F ∧ i = .int .i64 ((j : Int) + 1) ∧ h = .int .u64 (pws F p j : Nat)) (fun _ i => 200 - (intOf i).toNat)
    case atStart => exact ⟨0, by omega, rfl, pvint (by rw [pws_zero]; rfl)⟩
    case round =>
      obtain ⟨j, hj, rfl, rfl⟩ := hrel
      have l1 := PL.out j (by omega)
      have S := pws_succ F p j
      obtain ⟨x, hx⟩ : ∃ x, pws F p j = x := ⟨_, rfl⟩
      rw [hx] at l1 S ⊢
      by_cases h : j + 1 < F
      · have lt : (j : Int) + 1 < (F : Int) := by omega
        have l2 := PW.out (j + 1) (by omega)
        have P := fun w => rpart_any ((j + 1 : Nat) : Int) F w
        have W := fun w => PA.out (j + 1) (by omega) w
        rw [powV_part (by omega) h0 (by omega) (by omega)] at W
        rw [show ((j + 1 : Nat) : Int) = (j : Int) + 1 by omega] at P W
        obtain ⟨a, ha⟩ : ∃ a, ptV ((j : Int) + 1) F = a := ⟨_, rfl⟩
        obtain ⟨b, hb⟩ : ∃ b, ptE ((j : Int) + 1) F = b := ⟨_, rfl⟩
        obtain ⟨y, hy⟩ : ∃ y, pw (partV (j + 1) F) p = y := ⟨_, rfl⟩
        rw [ha, hb] at P
        rw [ha, hy] at W
        rw [hy] at l2 S
        have HP := Lib.hid P
        have HW := Lib.hid W
        have HS := Lib.hid S
        clear S hx hy ha hb P W
        go_wp2_with (first
          | (go_at_call 22; refine (HP.out _).mono ?_; rintro e w' ⟨rfl, rfl⟩)
          | (go_at_call 26; refine (HW.out _).mono ?_; rintro e w' ⟨rfl, rfl⟩))
        go_round
        case rel => exact ⟨j + 1, by omega, pvint (by omega), pvint (by rw [HS.out]; omega)⟩
        case measure => simp [intOf]; omega
      · have ge : ¬ (j : Int) + 1 < (F : Int) := by omega
        have HX := Lib.hid hx
        have HJ := Lib.hid (show F - 1 = j by omega)
        clear S hx
        go_wp2_with fail
        go_ret
        exact ⟨pretU (by rw [E.out, HJ.out, HX.out]; omega), rfl⟩
set_option maxHeartbeats 400000 in
theorem palive (w : World) : Calls Try.prog 27 #[] w fun e w' => e = .returned (.bool true) ∧ w = w' := by
  have L := fun w => stops_ok 1 1 w (by decide) (by decide) (by decide)
  rw [show stopsV 1 1 = 4294967296 by decide] at L
  have HL := Lib.hid L
  clear L
  go_enter Try.func27, Try.ntmps27
  go_wp2_with (go_at_call 28; refine (HL.out _).mono ?_; rintro e w' ⟨rfl, rfl⟩)
  go_ret
  exact ⟨rfl, rfl⟩
end Go.Proofs.Ytjokekohmncmkad
