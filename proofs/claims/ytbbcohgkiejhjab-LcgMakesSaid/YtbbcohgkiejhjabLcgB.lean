/- Contracts of lcg.Word and of the law's own word. -/
import Derived.Test.YtbbcohgkiejhjabRows
import Derived.Test.YtbbcohgkiejhjabLcgMath
import Derived.Test.YtbbcohgkiejhjabLcgA
import Derived.Test.YtbbcohgkiejhjabLcgRot
import Derived.WalkKit
import Derived.Lib.Hide
import Derived.WalkSpells
import Derived.WalkLawsBesides
import Derived.Deep.QuietTactic
import Derived.BigQuiet
namespace Go.Proofs.Ytbbcohgkiejhjab
open Go.RowKit
set_option linter.unusedSimpArgs false
set_option linter.unusedVariables false
theorem and31 {j : Nat} (h1 : 1 ≤ j) (h2 : j ≤ 31) : bits .and .u64 (IntKind.u64.wrap (-(j : Int))) 31 = ((32 - j : Nat) : Int) := by
  have e : IntKind.u64.wrap (-(j : Int)) = ((18446744073709551616 - j : Nat) : Int) := by rw [IntKind.wrap_u64]; omega
  have := u64_and_nat (18446744073709551616 - j) 31 (by omega) (by omega)
  rw [e]
  refine this.trans ?_
  rw [show (31 : Nat) = 2 ^ 5 - 1 by decide, Nat.and_two_pow_sub_one_eq_mod]
  omega
set_option maxHeartbeats 400000 in
theorem rot_any (x j : Nat) (w : World) (hx : x < 4294967296) (h1 : 1 ≤ j) (h2 : j ≤ 31) :
    Calls Try.prog 62 #[.int .u32 x, .int .i64 (-(j : Int))] w fun e w' => e = .returned (.int .u32 (rotR x j : Nat)) ∧ w = w' := by
  have hA := and31 h1 h2
  have hr : 32 - j ≤ 31 := by omega
  have ho := rot_or hx h1 h2
  have O := Lib.hid ho
  clear ho
  go_enter Try.func62, Try.ntmps62
  go_wp2_with fail
  go_ret
  refine ⟨ret1 ?_, rfl⟩
  rw [show 32 - (32 - j) = j by omega]
  have e1 : (x : Int) * 2 ^ (32 - j) % 4294967296 = ((x * 2 ^ (32 - j) % 4294967296 : Nat) : Int) := by
    rw [Int.natCast_emod, Int.natCast_mul, Int.natCast_pow]; rfl
  have e2 : (x : Int) / 2 ^ j = ((x / 2 ^ j : Nat) : Int) := by
    rw [Int.natCast_ediv, Int.natCast_pow]; rfl
  rw [e1, e2, u32_or_nat _ _ (Nat.mod_lt _ (by omega)) (Nat.lt_of_le_of_lt (Nat.div_le_self _ _) hx), O.out]
set_option maxHeartbeats 400000 in
theorem rot_zero (x : Nat) (w : World) (hx : x < 4294967296) :
    Calls Try.prog 62 #[.int .u32 x, .int .i64 0] w fun e w' => e = .returned (.int .u32 x) ∧ w = w' := by
  have hA : bits .and .u64 (IntKind.u64.wrap 0) 31 = ((0 : Nat) : Int) := by decide
  have hA2 : bits .and .u64 0 31 = ((0 : Nat) : Int) := by decide
  have ho := u32_or_nat x 0 hx (by omega)
  rw [Nat.or_zero] at ho
  go_enter Try.func62, Try.ntmps62
  go_wp2_with fail
  go_ret
  refine ⟨ret1 ?_, rfl⟩
  first | exact ho | (have e : (x : Int) / 4294967296 = 0 := by omega
                      simp only [e] at *
                      first | exact ho | (simp; exact ho))
/-- what a state says, ahead of the turn -/
def wx (s : Nat) : Nat := s / 262144 ^^^ s
theorem wx_lt {s : Nat} (hs : s < 18446744073709551616) : wx s < 18446744073709551616 := by
  unfold wx
  exact Nat.xor_lt_two_pow (n := 64) (by have := Nat.div_le_self s 262144; omega) (by omega)
def wd (s : Nat) : Nat := rotR (wx s / 134217728 % 4294967296) (s / 576460752303423488)
theorem wd_lt {s : Nat} (hs : s < 18446744073709551616) : wd s < 4294967296 := rotR_lt (by omega) (by omega)
theorem xor_wx {s : Nat} (hs : s < 18446744073709551616) : bits .xor .u64 ((s : Int) / 262144) s = (wx s : Int) := by
  have := u64_xor_nat (s / 262144) s (by omega) hs
  rwa [Int.natCast_ediv] at this
set_option maxHeartbeats 400000 in
theorem word_any (s : Nat) (w : World) (hs : s < 18446744073709551616) :
    Calls Try.prog 37 #[.int .u64 s] w fun e w' => e = .returned (.int .u32 (wd s : Nat)) ∧ w = w' := by
  have hx := xor_wx hs
  have hl := wx_lt hs
  by_cases h : s / 576460752303423488 = 0
  · have e : wd s = wx s / 134217728 % 4294967296 := by unfold wd; rw [h, rotR_zero]
    have E := Lib.hid e
    have h' : (s : Int) / 576460752303423488 = 0 := by omega
    clear e h
    go_enter Try.func37, Try.ntmps37
    go_wp2_with fail
    have ec : ((wx s : Int) / 134217728 % 4294967296) = ((wx s / 134217728 % 4294967296 : Nat) : Int) := by omega
    rw [ec]
    refine (rot_zero _ _ (by omega)).mono ?_
    rintro e w' ⟨rfl, rfl⟩
    clear ec
    go_wp2_with fail
    go_ret
    exact ⟨ret1 (by rw [E.out]; omega), rfl⟩
  · go_enter Try.func37, Try.ntmps37
    go_wp2_with fail
    have ec : ((wx s : Int) / 134217728 % 4294967296) = ((wx s / 134217728 % 4294967296 : Nat) : Int) := by omega
    have ed : ((s : Int) / 576460752303423488) = ((s / 576460752303423488 : Nat) : Int) := by omega
    rw [ec, ed]
    refine (rot_any _ _ _ (by omega) (by omega) (by omega)).mono ?_
    rintro e w' ⟨rfl, rfl⟩
    clear ec ed
    go_wp2_with fail
    go_ret
    exact ⟨rfl, rfl⟩
set_option maxHeartbeats 400000 in
theorem lword_any (s : Nat) (w : World) (hs : s < 18446744073709551616) :
    Calls Try.prog 34 #[.int .u64 s] w fun e w' => e = .returned (.int .u32 (wd s : Nat)) ∧ w = w' := by
  have hx := xor_wx hs
  have hl := wx_lt hs
  have W : Hid (wd s = rotR (wx s / 134217728 % 4294967296) (s / 576460752303423488)) := by unfold Hid; rfl
  have hx0 : wx s / 134217728 % 4294967296 < 4294967296 := by omega
  have hk : s / 576460752303423488 ≤ 31 := by omega
  have ed : Hid (((s : Int) / 576460752303423488) = ((s / 576460752303423488 : Nat) : Int)) := by unfold Hid; omega
  have ec : Hid (((wx s : Int) / 134217728 % 4294967296) = ((wx s / 134217728 % 4294967296 : Nat) : Int)) := by unfold Hid; omega
  go_enter Try.func34, Try.ntmps34
  go_wp2_with fail
  go_loop [3, 4] (fun x i => ∃ j : Nat, j ≤ s / 576460752303423488 ∧ i = .int .u64 j ∧ x = .int .u32 (rotR (wx s / 134217728 % 4294967296) j : Nat)) (fun _ i => s / 576460752303423488 - (intOf i).toNat)
  case atStart => exact ⟨0, by omega, rfl, by rw [rotR_zero, ec.out]⟩
  case round =>
    obtain ⟨j, hj, rfl, rfl⟩ := hrel
    have hlt := rotR_lt (j := j) hx0 (by omega)
    by_cases h : j < s / 576460752303423488
    · have hs2 : Hid _ := Lib.hid (rotR_step (x := wx s / 134217728 % 4294967296) (j := j) (by omega))
      have h' : (j : Int) < (s : Int) / 576460752303423488 := by omega
      go_wp2_with fail
      go_round
      case rel => exact ⟨j + 1, by omega, by go_num, by rw [← hs2.out]; simp⟩
      case measure => simp [intOf]; omega
    · have h' : ¬ (j : Int) < (s : Int) / 576460752303423488 := by omega
      obtain rfl : j = s / 576460752303423488 := by omega
      go_wp2_with fail
      go_ret
      exact ⟨ret1 (by rw [W.out]), rfl⟩
end Go.Proofs.Ytbbcohgkiejhjab
