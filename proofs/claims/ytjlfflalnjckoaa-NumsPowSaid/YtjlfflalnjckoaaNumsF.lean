/- Contracts of nums.Pow and the document's: a power, or that there is none. -/
import Derived.Test.YtjlfflalnjckoaaRows
import Derived.Test.YtjlfflalnjckoaaNumsMath
import Derived.Test.YtjlfflalnjckoaaNumsPowMath
import Derived.Test.YtjlfflalnjckoaaNumsA
import Derived.Test.YtjlfflalnjckoaaNumsB
import Derived.WalkKit
import Derived.Lib.Hide
import Derived.WalkSpells
import Derived.WalkLawsBesides
import Derived.Deep.QuietTactic
import Derived.BigQuiet
namespace Go.Proofs.Ytjlfflalnjckoaa
open Go.RowKit
set_option linter.unusedSimpArgs false
set_option linter.unusedVariables false

set_option maxHeartbeats 400000 in
theorem pow_neg (a n : Int) (w : World) (hn : n < 0) :
    Calls Try.prog 29 #[.int .i64 a, .int .i64 n] w fun e w' => e = .returned (.tuple #[.int .i64 0, .int .i64 22]) ∧ w = w' := by
  go_enter Try.func29, Try.ntmps29
  go_wp2
  go_ret2
  exact ⟨rfl, rfl⟩
theorem ret_pow {a : Int} {m n : Nat} (h : a ^ m = a ^ n) (hf : -9223372036854775808 ≤ a ^ m ∧ a ^ m ≤ 9223372036854775807) : Ending.returned (.tuple #[.int .i64 (a ^ m), .int .i64 0]) = .returned (.tuple #[.int .i64 (fitN (a ^ n)), .int .i64 (fitE (a ^ n))]) := by
  rw [← h, (fit_yes hf).1, (fit_yes hf).2]
theorem ret_pow_no {a : Int} {m n : Nat} (h : a ^ m = a ^ n) {i : Nat} (hi : i ≤ m) (hf : a ^ i < -9223372036854775808 ∨ 9223372036854775807 < a ^ i) : Ending.returned (.tuple #[.int .i64 0, .int .i64 10]) = .returned (.tuple #[.int .i64 (fitN (a ^ n)), .int .i64 (fitE (a ^ n))]) := by
  have := pow_big hi hf
  rw [h] at this
  rw [(fit_no this).1, (fit_no this).2]
theorem p0 (a : Int) : Value.int .i64 1 = Value.int .i64 (a ^ 0) := by rw [Int.pow_zero]
theorem p0f (a : Int) : Hid (-9223372036854775808 ≤ a ^ 0 ∧ a ^ 0 ≤ 9223372036854775807) := by
  have h : -9223372036854775808 ≤ a ^ 0 ∧ a ^ 0 ≤ 9223372036854775807 := by rw [Int.pow_zero]; omega
  exact Lib.hid h
set_option maxHeartbeats 1000000 in
theorem pow_any (a : Int) (n : Nat) (w : World) (ha : -9223372036854775808 ≤ a) (ha' : a ≤ 9223372036854775807) (hn : n ≤ 9223372036854775807) :
    Calls Try.prog 29 #[.int .i64 a, .int .i64 n] w fun e w' => e = .returned (.tuple #[.int .i64 (fitN (a ^ n)), .int .i64 (fitE (a ^ n))]) ∧ w = w' := by
  by_cases hs : a.natAbs ≤ 1 ∧ 2 < n
  · obtain ⟨hs1, hs2⟩ := hs
    have s1 : (a.natAbs : Int) ≤ 1 := by omega
    have s2 : 2 < (n : Int) := by omega
    have hpow := Lib.hid (pow_small hs1 n (by omega))
    clear hs1
    go_enter Try.func29, Try.ntmps29
    go_wp2_with (go_at_call 14; refine (size_any _ _ (by assumption) (by assumption)).mono ?_; rintro e w' ⟨rfl, rfl⟩)
    go_loop [6, 21] (fun p i => ∃ k : Nat, p = .int .i64 (a ^ k) ∧ i = .int .i64 k ∧ k ≤ 2 - n % 2 ∧ Hid (-9223372036854775808 ≤ a ^ k ∧ a ^ k ≤ 9223372036854775807)) (fun _ i => (2 - (intOf i)).toNat)
    case atStart => exact ⟨0, p0 a, rfl, by omega, p0f a⟩
    case round =>
      obtain ⟨k, rfl, rfl, hk, hf⟩ := hrel
      by_cases hlt : k < 2 - n % 2
      · have e : Hid (a ^ k * a = a ^ (k + 1)) := (Int.pow_succ a k).symm
        by_cases hg : a ^ (k + 1) < -9223372036854775808 ∨ 9223372036854775807 < a ^ (k + 1)
        · have G := Lib.hid hg
          clear hg
          go_wp2_with (go_at_call 17; refine (mul_no _ _ _ _ hf.out.1 hf.out.2 ha ha' e.out G.out).mono ?_; rintro e w' ⟨rfl, rfl⟩)
          go_ret2
          exact ⟨ret_pow_no hpow.out.symm (by omega) G.out, rfl⟩
        · have G : Hid (-9223372036854775808 ≤ a ^ (k + 1) ∧ a ^ (k + 1) ≤ 9223372036854775807) := by show _ ∧ _; omega
          clear hg
          go_wp2_with (go_at_call 17; refine (mul_ok _ _ _ _ hf.out.1 hf.out.2 ha ha' e.out G.out).mono ?_; rintro e w' ⟨rfl, rfl⟩)
          go_round
          case rel => exact ⟨k + 1, rfl, by go_num, by omega, G⟩
          case measure => simp [intOf]; omega
      · have hk' : k = 2 - n % 2 := by omega
        have K := Lib.hid hk'
        clear hk'
        go_wp2
        go_ret2
        exact ⟨ret_pow (by rw [hpow.out, K.out]) hf.out, rfl⟩
  · have hs' : (decide ((a.natAbs : Int) ≤ 1) = false) ∨ (decide ((a.natAbs : Int) ≤ 1) = true ∧ decide (2 < (n : Int)) = false) := by simp; omega
    clear hs
    rcases hs' with s1 | ⟨s1, s2⟩
    all_goals
      go_enter Try.func29, Try.ntmps29
      go_wp2_with (go_at_call 14; refine (size_any _ _ (by assumption) (by assumption)).mono ?_; rintro e w' ⟨rfl, rfl⟩)
      go_loop [6, 21] (fun p i => ∃ k : Nat, p = .int .i64 (a ^ k) ∧ i = .int .i64 k ∧ k ≤ n ∧ Hid (-9223372036854775808 ≤ a ^ k ∧ a ^ k ≤ 9223372036854775807)) (fun _ i => (n - (intOf i)).toNat)
      case atStart => exact ⟨0, p0 a, rfl, by omega, p0f a⟩
      case round =>
        obtain ⟨k, rfl, rfl, hk, hf⟩ := hrel
        by_cases hlt : k < n
        · have e : Hid (a ^ k * a = a ^ (k + 1)) := (Int.pow_succ a k).symm
          by_cases hg : a ^ (k + 1) < -9223372036854775808 ∨ 9223372036854775807 < a ^ (k + 1)
          · have G := Lib.hid hg
            clear hg
            go_wp2_with (go_at_call 17; refine (mul_no _ _ _ _ hf.out.1 hf.out.2 ha ha' e.out G.out).mono ?_; rintro e w' ⟨rfl, rfl⟩)
            go_ret2
            exact ⟨ret_pow_no rfl (by omega) G.out, rfl⟩
          · have G : Hid (-9223372036854775808 ≤ a ^ (k + 1) ∧ a ^ (k + 1) ≤ 9223372036854775807) := by show _ ∧ _; omega
            clear hg
            go_wp2_with (go_at_call 17; refine (mul_ok _ _ _ _ hf.out.1 hf.out.2 ha ha' e.out G.out).mono ?_; rintro e w' ⟨rfl, rfl⟩)
            go_round
            case rel => exact ⟨k + 1, rfl, by go_num, by omega, G⟩
            case measure => simp [intOf]; omega
        · have hk' : k = n := by omega
          have K := Lib.hid hk'
          clear hk'
          go_wp2
          go_ret2
          exact ⟨ret_pow (by rw [K.out]) hf.out, rfl⟩

theorem ret_rpow {a : Int} {m n : Nat} (h : fitN (a ^ m) = fitN (a ^ n) ∧ fitB (a ^ m) = fitB (a ^ n)) (hf : -9223372036854775808 ≤ a ^ m ∧ a ^ m ≤ 9223372036854775807) : Ending.returned (.tuple #[.int .i64 (a ^ m), .bool true]) = .returned (.tuple #[.int .i64 (fitN (a ^ n)), .bool (fitB (a ^ n))]) := by
  rw [← h.1, ← h.2, (fit_yes hf).1, fitB_yes hf]
theorem ret_rpow_no {a : Int} {m n : Nat} (h : fitN (a ^ m) = fitN (a ^ n) ∧ fitB (a ^ m) = fitB (a ^ n)) {i : Nat} (hi : i ≤ m) (hf : a ^ i < -9223372036854775808 ∨ 9223372036854775807 < a ^ i) : Ending.returned (.tuple #[.int .i64 0, .bool false]) = .returned (.tuple #[.int .i64 (fitN (a ^ n)), .bool (fitB (a ^ n))]) := by
  have := pow_big hi hf
  rw [← h.1, ← h.2, (fit_no this).1, fitB_no this]
set_option maxHeartbeats 1000000 in
theorem rpow_any (a : Int) (n : Nat) (w : World) (ha : -9223372036854775808 ≤ a) (ha' : a ≤ 9223372036854775807) (hn : n ≤ 9223372036854775807) :
    Calls Try.prog 30 #[.int .i64 a, .int .i64 n] w fun e w' => e = .returned (.tuple #[.int .i64 (fitN (a ^ n)), .bool (fitB (a ^ n))]) ∧ w = w' := by
  by_cases hs : 200 < n
  · have s2 : 200 < (n : Int) := by omega
    have hpow := Lib.hid (pow_200 a n hs)
    go_enter Try.func30, Try.ntmps30
    go_wp2
    go_loop [6, 7] (fun p i => ∃ k : Nat, p = .int .i64 (a ^ k) ∧ i = .int .i64 k ∧ k ≤ 200 + n % 2 ∧ Hid (-9223372036854775808 ≤ a ^ k ∧ a ^ k ≤ 9223372036854775807)) (fun _ i => (200 + n % 2 - (intOf i)).toNat)
    case atStart => exact ⟨0, p0 a, rfl, by omega, p0f a⟩
    case round =>
      obtain ⟨k, rfl, rfl, hk, hf⟩ := hrel
      by_cases hlt : k < 200 + n % 2
      · have e : Hid (a ^ k * a = a ^ (k + 1)) := (Int.pow_succ a k).symm
        by_cases hg : a ^ (k + 1) < -9223372036854775808 ∨ 9223372036854775807 < a ^ (k + 1)
        · have G := Lib.hid hg
          clear hg
          go_wp2_with (go_at_call 18; refine (rmul_no _ _ _ _ hf.out.1 hf.out.2 ha ha' e.out G.out).mono ?_; rintro e w' ⟨rfl, rfl⟩)
          go_ret2
          exact ⟨ret_rpow_no hpow.out (by omega) G.out, rfl⟩
        · have G : Hid (-9223372036854775808 ≤ a ^ (k + 1) ∧ a ^ (k + 1) ≤ 9223372036854775807) := by show _ ∧ _; omega
          clear hg
          go_wp2_with (go_at_call 18; refine (rmul_ok _ _ _ _ hf.out.1 hf.out.2 ha ha' e.out G.out).mono ?_; rintro e w' ⟨rfl, rfl⟩)
          go_round
          case rel => exact ⟨k + 1, rfl, by go_num, by omega, G⟩
          case measure => simp [intOf]; omega
      · have hk' : k = 200 + n % 2 := by omega
        have K := Lib.hid hk'
        clear hk'
        go_wp2
        go_ret2
        exact ⟨ret_rpow (by rw [K.out]; exact hpow.out) hf.out, rfl⟩
  · have s2 : (n : Int) ≤ 200 := by omega
    go_enter Try.func30, Try.ntmps30
    go_wp2
    go_loop [6, 7] (fun p i => ∃ k : Nat, p = .int .i64 (a ^ k) ∧ i = .int .i64 k ∧ k ≤ n ∧ Hid (-9223372036854775808 ≤ a ^ k ∧ a ^ k ≤ 9223372036854775807)) (fun _ i => (n - (intOf i)).toNat)
    case atStart => exact ⟨0, p0 a, rfl, by omega, p0f a⟩
    case round =>
      obtain ⟨k, rfl, rfl, hk, hf⟩ := hrel
      by_cases hlt : k < n
      · have e : Hid (a ^ k * a = a ^ (k + 1)) := (Int.pow_succ a k).symm
        by_cases hg : a ^ (k + 1) < -9223372036854775808 ∨ 9223372036854775807 < a ^ (k + 1)
        · have G := Lib.hid hg
          clear hg
          go_wp2_with (go_at_call 18; refine (rmul_no _ _ _ _ hf.out.1 hf.out.2 ha ha' e.out G.out).mono ?_; rintro e w' ⟨rfl, rfl⟩)
          go_ret2
          exact ⟨ret_rpow_no ⟨rfl, rfl⟩ (by omega) G.out, rfl⟩
        · have G : Hid (-9223372036854775808 ≤ a ^ (k + 1) ∧ a ^ (k + 1) ≤ 9223372036854775807) := by show _ ∧ _; omega
          clear hg
          go_wp2_with (go_at_call 18; refine (rmul_ok _ _ _ _ hf.out.1 hf.out.2 ha ha' e.out G.out).mono ?_; rintro e w' ⟨rfl, rfl⟩)
          go_round
          case rel => exact ⟨k + 1, rfl, by go_num, by omega, G⟩
          case measure => simp [intOf]; omega
      · have hk' : k = n := by omega
        have K := Lib.hid hk'
        clear hk'
        go_wp2
        go_ret2
        exact ⟨ret_rpow (by rw [K.out]; exact ⟨rfl, rfl⟩) hf.out, rfl⟩
end Go.Proofs.Ytjlfflalnjckoaa
