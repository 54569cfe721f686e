/- Contracts of hist.Right, Bin, Edge, Total and of the law's own helpers. -/
import Derived.Test.YtnjdeikikdieoaaRows
import Derived.Test.YtnjdeikikdieoaaRowKit
import Derived.WalkKit
import Derived.IntWalk
import Derived.Lib.Hide
import Derived.WalkSpells
import Derived.WalkLawsBesides
import Derived.Deep.QuietTactic
import Derived.BigQuiet
namespace Go.Proofs.Ytnjdeikikdieoaa
open Go.RowKit
set_option linter.unusedSimpArgs false
set_option linter.unusedVariables false
/-- there may be such bins -/
abbrev HR (b d : Int) : Prop := 1 ≤ b ∧ b ≤ 64 ∧ 1 ≤ d ∧ d ≤ 4096
set_option maxHeartbeats 400000 in
theorem hright_any (b d : Int) (w : World) :
    Calls Try.prog 45 #[.int .i64 b, .int .i64 d] w fun e w' => e = .returned (.bool (decide (1 ≤ b ∧ b ≤ 64 ∧ 1 ≤ d ∧ d ≤ 4096))) ∧ w = w' := by
  by_cases h0 : 1 ≤ b
  · -- yes
    by_cases h1 : b ≤ 64
    · -- yes
      by_cases h2 : 1 ≤ d
      · -- yes
        by_cases h3 : d ≤ 4096
        · -- yes
          rw [decide_eq_true (show 1 ≤ b ∧ b ≤ 64 ∧ 1 ≤ d ∧ d ≤ 4096 by omega)]
          go_enter Try.func45, Try.ntmps45
          go_wp2_with fail
          go_ret
          exact ⟨by simp [*], rfl⟩
        · -- no
          rw [decide_eq_false (show ¬ (1 ≤ b ∧ b ≤ 64 ∧ 1 ≤ d ∧ d ≤ 4096) by omega)]
          go_enter Try.func45, Try.ntmps45
          go_wp2_with fail
          go_ret
          exact ⟨by simp [*], rfl⟩
      · -- no
        rw [decide_eq_false (show ¬ (1 ≤ b ∧ b ≤ 64 ∧ 1 ≤ d ∧ d ≤ 4096) by omega)]
        go_enter Try.func45, Try.ntmps45
        go_wp2_with fail
        go_ret
        exact ⟨by simp [*], rfl⟩
    · -- no
      rw [decide_eq_false (show ¬ (1 ≤ b ∧ b ≤ 64 ∧ 1 ≤ d ∧ d ≤ 4096) by omega)]
      go_enter Try.func45, Try.ntmps45
      go_wp2_with fail
      go_ret
      exact ⟨by simp [*], rfl⟩
  · -- no
    rw [decide_eq_false (show ¬ (1 ≤ b ∧ b ≤ 64 ∧ 1 ≤ d ∧ d ≤ 4096) by omega)]
    go_enter Try.func45, Try.ntmps45
    go_wp2_with fail
    go_ret
    exact ⟨by simp [*], rfl⟩
/-- the bin of a number -/
def binV (b d n : Int) : Int := if HR b d then (if n < 0 then 0 else min (n / d) (b - 1)) else 0
def binE (b d n : Int) : Int := if HR b d then (if n < 0 then 10 else 0) else 22
theorem bin_no {b d n : Int} (h : ¬ HR b d) : binV b d n = 0 ∧ binE b d n = 22 := ⟨if_neg h, if_neg h⟩
theorem bin_neg {b d n : Int} (h : HR b d) (hn : n < 0) : binV b d n = 0 ∧ binE b d n = 10 := by unfold binV binE; rw [if_pos h, if_pos h, if_pos hn, if_pos hn]; exact ⟨rfl, rfl⟩
theorem bin_ok {b d n : Int} (h : HR b d) (hn : 0 ≤ n) : binV b d n = min (n / d) (b - 1) ∧ binE b d n = 0 := by unfold binV binE; rw [if_pos h, if_pos h, if_neg (by omega), if_neg (by omega)]; exact ⟨rfl, rfl⟩
set_option maxHeartbeats 400000 in
theorem hbin_any (b d n : Int) (w : World) (hn : n ≤ 9223372036854775807) :
    Calls Try.prog 46 #[.int .i64 b, .int .i64 d, .int .i64 n] w fun e w' => e = .returned (.tuple #[.int .i64 (binV b d n), .int .i64 (binE b d n)]) ∧ w = w' := by
  have HC := Lib.hid (fun w => hright_any b d w)
  by_cases h : HR b d
  · have hd : decide (1 ≤ b ∧ b ≤ 64 ∧ 1 ≤ d ∧ d ≤ 4096) = true := decide_eq_true h
    by_cases h0 : n < 0
    · obtain ⟨e1, e2⟩ := bin_neg h h0
      rw [e1, e2]
      go_enter Try.func46, Try.ntmps46
      go_wp2_with (go_at_call 45; refine (HC.out _).mono ?_; rintro e w' ⟨rfl, rfl⟩; rw [hd])
      go_ret2
      exact ⟨rfl, rfl⟩
    · obtain ⟨e1, e2⟩ := bin_ok h (show 0 ≤ n by omega)
      rw [e1, e2]
      have hz : (d == 0) = false := by rw [beq_eq_false_iff_ne]; omega
      obtain ⟨q, hq⟩ : ∃ q, n / d = q := ⟨_, rfl⟩
      have hdv : 0 ≤ n / d := Int.ediv_nonneg (by omega) (by omega)
      have h3 := h.1
      have h4 := h.2.1
      have h5 := h.2.2.1
      have h6 := h.2.2.2
      rw [hq] at hdv
      rcases Int.lt_trichotomy q (b - 1) with hc | hc | hc
      · have m1 : min q (b - 1) = q := by omega
        rw [hq, m1]
        go_enter Try.func46, Try.ntmps46
        go_wp2_with (go_at_call 45; refine (HC.out _).mono ?_; rintro e w' ⟨rfl, rfl⟩; rw [hd])
        all_goals go_ret2
        all_goals exact ⟨rfl, rfl⟩
      · have hq2 : n / d = b - 1 := by omega
        have m1 : min (b - 1) (b - 1) = b - 1 := by omega
        rw [hq2, m1]
        clear hc hq
        go_enter Try.func46, Try.ntmps46
        go_wp2_with (go_at_call 45; refine (HC.out _).mono ?_; rintro e w' ⟨rfl, rfl⟩; rw [hd])
        all_goals go_ret2
        all_goals exact ⟨rfl, rfl⟩
      · have m1 : min q (b - 1) = b - 1 := by omega
        rw [hq, m1]
        go_enter Try.func46, Try.ntmps46
        go_wp2_with (go_at_call 45; refine (HC.out _).mono ?_; rintro e w' ⟨rfl, rfl⟩; rw [hd])
        all_goals go_ret2
        all_goals exact ⟨rfl, rfl⟩
  · have hd : decide (1 ≤ b ∧ b ≤ 64 ∧ 1 ≤ d ∧ d ≤ 4096) = false := decide_eq_false h
    obtain ⟨e1, e2⟩ := bin_no (n := n) h
    rw [e1, e2]
    clear h
    go_enter Try.func46, Try.ntmps46
    go_wp2_with (go_at_call 45; refine (HC.out _).mono ?_; rintro e w' ⟨rfl, rfl⟩; rw [hd])
    go_ret2
    exact ⟨rfl, rfl⟩
end Go.Proofs.Ytnjdeikikdieoaa
