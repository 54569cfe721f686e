/- Contracts of lcg.Step, Jump and Back. -/
import Derived.Test.YtbbcohgkiejhjacRows
import Derived.Test.YtbbcohgkiejhjacLcgMath
import Derived.WalkKit
import Derived.Lib.Hide
import Derived.WalkSpells
import Derived.WalkLawsBesides
import Derived.Deep.QuietTactic
import Derived.BigQuiet
namespace Go.Proofs.Ytbbcohgkiejhjac
open Go.RowKit
set_option linter.unusedSimpArgs false
set_option linter.unusedVariables false
theorem ret1 {k : IntKind} {a b : Int} (h : a = b) : Ending.returned (.int k a) = .returned (.int k b) := by rw [h]
theorem wrap_aff (m c x : Nat) : (((x : Int) * m) % 18446744073709551616 + c) % 18446744073709551616 = ((aff m c x : Nat) : Int) := by
  unfold aff
  rw [Int.emod_add_emod]
  simp only [Int.natCast_emod, Int.natCast_add, Int.natCast_mul]
  rfl
theorem mod64 (x : Nat) : x % 18446744073709551616 < 18446744073709551616 := by omega
theorem w_mul (m x : Nat) : IntKind.u64.wrap ((x : Int) * m) = ((x * m % 18446744073709551616 : Nat) : Int) := by
  rw [IntKind.wrap_u64, Int.natCast_emod, Int.natCast_mul]; rfl
theorem w_aff (m c x : Nat) : IntKind.u64.wrap (IntKind.u64.wrap ((x : Int) * m) + c) = ((aff m c x : Nat) : Int) := by
  rw [IntKind.wrap_u64, IntKind.wrap_u64]; exact wrap_aff m c x
set_option maxHeartbeats 400000 in
theorem step_any (s : Nat) (w : World) (hs : s < 18446744073709551616) :
    Calls Try.prog 4 #[.int .u64 s] w fun e w' => e = .returned (.int .u64 (stp s : Nat)) ∧ w = w' := by
  go_enter Try.func4, Try.ntmps4
  go_wp2
  go_ret
  exact ⟨ret1 (w_aff 6364136223846793005 1442695040888963407 s), rfl⟩
set_option maxHeartbeats 400000 in
theorem jump_any (s n : Nat) (w : World) (hs : s < 18446744073709551616) (hn : n < 18446744073709551616) :
    Calls Try.prog 5 #[.int .u64 s, .int .u64 n] w fun e w' => e = .returned (.int .u64 (its n s : Nat)) ∧ w = w' := by
  go_enter Try.func5, Try.ntmps5
  go_wp2
  go_loop [0, 1, 5, 6] (fun a b c d => ∃ S N M C j : Nat, S < 18446744073709551616 ∧ N < 18446744073709551616 ∧ M < 18446744073709551616 ∧ C < 18446744073709551616 ∧ Rep M C j ∧ Hid (its (N * j) S = its n s) ∧ a = .int .u64 S ∧ b = .int .u64 N ∧ c = .int .u64 M ∧ d = .int .u64 C) (fun _ b _ _ => (intOf b).toNat)
  case atStart => exact ⟨s, n, 6364136223846793005, 1442695040888963407, 1, hs, hn, by omega, by omega, rep_one, by unfold Hid; rw [Nat.mul_one], rfl, rfl, rfl, rfl⟩
  case round =>
    obtain ⟨S, N, M, C, j, hS, hN, hM, hC, hrep, H, rfl, rfl, rfl, rfl⟩ := hrel
    have R := Lib.hid hrep
    clear hrep
    by_cases h0 : N = 0
    · subst h0
      go_wp2
      go_ret
      have e := H.out
      exact ⟨ret1 (by rw [← e, Nat.zero_mul]; rfl), rfl⟩
    · by_cases h2 : N % 2 = 1
      · have h2' : (N : Int) % 2 = 1 := by omega
        have H2 := Lib.hid h2
        clear h2
        go_wp2
        go_round
        case rel =>
          refine ⟨aff M C S, N / 2, M * M % 18446744073709551616, (C * M + C) % 18446744073709551616, j + j, aff_lt _ _ _, by omega, mod64 _, mod64 _, rep_dbl R.out, ?_, ?_, ?_, ?_, ?_⟩
          · unfold Hid; rw [← H.out, R.out S hS]; exact (half_odd H2.out)
          · rw [w_aff]
          · go_num
          · rw [w_mul]
          · rw [w_aff]; rfl
        case measure => simp [intOf]; omega
      · go_wp2
        go_round
        case rel =>
          refine ⟨S, N / 2, M * M % 18446744073709551616, (C * M + C) % 18446744073709551616, j + j, hS, by omega, mod64 _, mod64 _, rep_dbl R.out, ?_, ?_, ?_, ?_, ?_⟩
          · unfold Hid; rw [← H.out]; exact half_even (by omega)
          · rfl
          · go_num
          · rw [w_mul]
          · rw [w_aff]; rfl
        case measure => simp [intOf]; omega
set_option maxHeartbeats 400000 in
theorem back_any (s : Nat) (w : World) (hs : s < 18446744073709551616) :
    Calls Try.prog 6 #[.int .u64 s] w fun e w' => e = .returned (.int .u64 (its 18446744073709551615 s : Nat)) ∧ w = w' := by
  have h := jump_any s 18446744073709551615 w hs (by omega)
  have H := Lib.hid h
  clear h
  go_enter Try.func6, Try.ntmps6
  go_wp2_with fail
  refine (H.out).mono ?_
  rintro e w' ⟨rfl, rfl⟩
  go_wp2_with fail
  go_ret
  exact ⟨rfl, rfl⟩
set_option maxHeartbeats 400000 in
theorem alive_any (w : World) :
    Calls Try.prog 7 #[] w fun e w' => e = .returned (.bool true) ∧ w = w' := by
  go_enter Try.func7, Try.ntmps7
  go_wp2
  go_ret
  exact ⟨rfl, rfl⟩
end Go.Proofs.Ytbbcohgkiejhjac
