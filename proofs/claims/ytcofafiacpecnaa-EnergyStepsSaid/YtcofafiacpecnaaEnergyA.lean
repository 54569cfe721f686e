/- Contracts of energy.Right, Step and of the law's own. -/
import Derived.Test.YtcofafiacpecnaaRows
import Derived.Test.YtcofafiacpecnaaRowKit
import Derived.Test.YtcofafiacpecnaaRowZ
import Derived.WalkKit
import Derived.IntWalk
import Derived.Lib.Hide
import Derived.WalkSpells
import Derived.WalkLawsBesides
import Derived.Deep.QuietTactic
import Derived.BigQuiet
import Derived.Below
namespace Go.Proofs.Ytcofafiacpecnaa
open Go.RowKit
set_option linter.unusedSimpArgs false
set_option linter.unusedVariables false
theorem eret {k : IntKind} {a b : Int} (h : a = b) : Ending.returned (.int k a) = .returned (.int k b) := by rw [h]
/-- the rates -/
def rtV (a b c d : Int) : Value := .agg #[.int .i64 a, .int .i64 b, .int .i64 c, .int .i64 d]
/-- a rate that may be -/
def okR (a : Int) : Prop := 0 ≤ a ∧ a ≤ 1048576
def rtOk (a b c d : Int) : Prop := okR a ∧ okR b ∧ okR c ∧ okR d
def nthR (a b c d : Int) (k : Nat) : Int := if k = 0 then a else if k = 1 then b else if k = 2 then c else d
theorem arr4 (a b c d : Int) {k : Nat} (h : k < 4) : #[(.int .i64 a : Value), .int .i64 b, .int .i64 c, .int .i64 d][k]? = some (.int .i64 (nthR a b c d k)) := by
  have : k = 0 ∨ k = 1 ∨ k = 2 ∨ k = 3 := by omega
  rcases this with rfl | rfl | rfl | rfl <;> rfl
theorem idx4_0 (a b c d : Int) (w : World) : (Instr.index 123 (.agg #[.int .i64 a, .int .i64 b, .int .i64 c, .int .i64 d]) (.int .i64 0)).run Try.prog w = .ok (.int .i64 a) w := by kernel_rfl
theorem idx4_1 (a b c d : Int) (w : World) : (Instr.index 123 (.agg #[.int .i64 a, .int .i64 b, .int .i64 c, .int .i64 d]) (.int .i64 1)).run Try.prog w = .ok (.int .i64 b) w := by kernel_rfl
theorem idx4_2 (a b c d : Int) (w : World) : (Instr.index 123 (.agg #[.int .i64 a, .int .i64 b, .int .i64 c, .int .i64 d]) (.int .i64 2)).run Try.prog w = .ok (.int .i64 c) w := by kernel_rfl
theorem idx4_3 (a b c d : Int) (w : World) : (Instr.index 123 (.agg #[.int .i64 a, .int .i64 b, .int .i64 c, .int .i64 d]) (.int .i64 3)).run Try.prog w = .ok (.int .i64 d) w := by kernel_rfl
theorem idx4 (a b c d : Int) (k : Nat) (hk : k < 4) (w : World) : (Instr.index 123 (.agg #[.int .i64 a, .int .i64 b, .int .i64 c, .int .i64 d]) (.int .i64 (k : Int))).run Try.prog w = .ok (.int .i64 (nthR a b c d k)) w := by
  have h : k = 0 ∨ k = 1 ∨ k = 2 ∨ k = 3 := by omega
  rcases h with rfl | rfl | rfl | rfl
  · exact idx4_0 a b c d w
  · exact idx4_1 a b c d w
  · exact idx4_2 a b c d w
  · exact idx4_3 a b c d w
set_option maxHeartbeats 400000 in
theorem eright_yes (a b c d : Int) (w : World) (h : rtOk a b c d) :
    Calls Try.prog 37 #[rtV a b c d] w fun e w' => e = .returned (.bool true) ∧ Below w.heap.size w w' := by
  have IX := Lib.hid (fun (k : Nat) (hk : k < 4) w => idx4 a b c d k hk w)
  have OK : Hid (∀ k, k < 4 → okR (nthR a b c d k)) := Lib.hid (by
    intro k hk
    obtain ⟨h0, h1, h2, h3⟩ := h
    have : k = 0 ∨ k = 1 ∨ k = 2 ∨ k = 3 := by omega
    rcases this with rfl | rfl | rfl | rfl <;> assumption)
  have BW := Lib.hid ((Below.refl w.heap.size w).alloc (Nat.le_refl _) (.cells #[.int .i64 a, .int .i64 b, .int .i64 c, .int .i64 d] 67))
  unfold rtV
  clear h
  go_enter Try.func37, Try.ntmps37
  go_wp2_with fail
  go_loop [14] (fun i => ∃ k : Nat, k ≤ 4 ∧ i = .int .i64 k) (fun i => 4 - (intOf i).toNat)
  case atStart => exact ⟨0, by omega, rfl⟩
  case round =>
    obtain ⟨k, hk, rfl⟩ := hrel
    by_cases hlt : k < 4
    · have ix := IX.out k hlt
      obtain ⟨o1, o2⟩ := OK.out k hlt
      obtain ⟨u, hu⟩ : ∃ u, nthR a b c d k = u := ⟨_, rfl⟩
      rw [hu] at ix o1 o2
      clear hu
      go_wp2_with fail
      go_round
      case rel => exact ⟨k + 1, by omega, by go_num⟩
      case measure => simp [intOf]; omega
    · obtain rfl : k = 4 := by omega
      go_wp2_with fail
      go_ret
      exact ⟨rfl, BW.out⟩
set_option maxHeartbeats 400000 in
theorem eright_no (a b c d : Int) (m : Nat) (w : World) (hm : m < 4) (hb : ∀ k, k < m → okR (nthR a b c d k)) (hn : ¬ okR (nthR a b c d m)) :
    Calls Try.prog 37 #[rtV a b c d] w fun e w' => e = .returned (.bool false) ∧ Below w.heap.size w w' := by
  have IX := Lib.hid (fun (k : Nat) (hk : k < 4) w => idx4 a b c d k hk w)
  have OK := Lib.hid hb
  have NO := Lib.hid hn
  have BW := Lib.hid ((Below.refl w.heap.size w).alloc (Nat.le_refl _) (.cells #[.int .i64 a, .int .i64 b, .int .i64 c, .int .i64 d] 67))
  unfold rtV
  clear hb hn
  go_enter Try.func37, Try.ntmps37
  go_wp2_with fail
  go_loop [14] (fun i => ∃ k : Nat, k ≤ m ∧ i = .int .i64 k) (fun i => 4 - (intOf i).toNat)
  case atStart => exact ⟨0, by omega, rfl⟩
  case round =>
    obtain ⟨k, hk, rfl⟩ := hrel
    by_cases hlt : k < m
    · have ix := IX.out k (by omega)
      obtain ⟨o1, o2⟩ := OK.out k hlt
      obtain ⟨u, hu⟩ : ∃ u, nthR a b c d k = u := ⟨_, rfl⟩
      rw [hu] at ix o1 o2
      clear hu
      have k4 : k < 4 := by omega
      go_wp2_with fail
      go_round
      case rel => exact ⟨k + 1, by omega, by go_num⟩
      case measure => simp [intOf]; omega
    · obtain rfl : k = m := by omega
      have ix := IX.out k hm
      have no := NO.out
      obtain ⟨u, hu⟩ : ∃ u, nthR a b c d k = u := ⟨_, rfl⟩
      rw [hu] at ix no
      clear hu
      unfold okR at no
      by_cases n1 : u < 0
      · clear no
        go_wp2_with fail
        go_ret
        exact ⟨rfl, BW.out⟩
      · have n2 : 1048576 < u := by omega
        clear no
        go_wp2_with fail
        go_ret
        exact ⟨rfl, BW.out⟩
instance (a : Int) : Decidable (okR a) := by unfold okR; infer_instance
instance (a b c d : Int) : Decidable (rtOk a b c d) := by unfold rtOk; infer_instance
theorem rt_bad {a b c d : Int} (h : ¬ rtOk a b c d) : ∃ m, m < 4 ∧ (∀ k, k < m → okR (nthR a b c d k)) ∧ ¬ okR (nthR a b c d m) := by
  by_cases h0 : okR a
  · by_cases h1 : okR b
    · by_cases h2 : okR c
      · have h3 : ¬ okR d := fun h3 => h ⟨h0, h1, h2, h3⟩
        refine ⟨3, by omega, fun k hk => ?_, h3⟩
        have : k = 0 ∨ k = 1 ∨ k = 2 := by omega
        rcases this with rfl | rfl | rfl <;> assumption
      · refine ⟨2, by omega, fun k hk => ?_, h2⟩
        have : k = 0 ∨ k = 1 := by omega
        rcases this with rfl | rfl <;> assumption
    · refine ⟨1, by omega, fun k hk => ?_, h1⟩
      obtain rfl : k = 0 := by omega
      exact h0
  · exact ⟨0, by omega, fun k hk => absurd hk (by omega), h0⟩
theorem eright_any (a b c d : Int) (w : World) :
    Calls Try.prog 37 #[rtV a b c d] w fun e w' => e = .returned (.bool (decide (rtOk a b c d))) ∧ Below w.heap.size w w' := by
  by_cases h : rtOk a b c d
  · rw [decide_eq_true h]; exact eright_yes a b c d w h
  · rw [decide_eq_false h]
    obtain ⟨m, h1, h2, h3⟩ := rt_bad h
    exact eright_no a b c d m w h1 h2 h3
theorem run_min4 {P : Program} (ts : Array TypeId) (t : TypeId) (a b c d : Int) (W : World) :
    (Builtin.min_ ts t #[.int .i64 a, .int .i64 b, .int .i64 c, .int .i64 d]).run P W = .ok (.int .i64 (min (min (min a b) c) d)) W := by
  have e : ∀ x y : Int, (if y < x then y else x) = min x y := by intro x y; omega
  simp [Builtin.min_, Builtin.min2, e]
theorem run_max4 {P : Program} (ts : Array TypeId) (t : TypeId) (a b c d : Int) (W : World) :
    (Builtin.max_ ts t #[.int .i64 a, .int .i64 b, .int .i64 c, .int .i64 d]).run P W = .ok (.int .i64 (max (max (max a b) c) d)) W := by
  have e : ∀ x y : Int, (if x < y then y else x) = max x y := by intro x y; omega
  simp [Builtin.max_, Builtin.max2, e]
set_option maxHeartbeats 400000 in
theorem lright_any (a b c d : Int) (w : World) :
    Calls Try.prog 38 #[rtV a b c d] w fun e w' => e = .returned (.bool (decide (rtOk a b c d))) ∧ Below w.heap.size w w' := by
  have MN := fun ts t W => run_min4 (P := Try.prog) ts t a b c d W
  have MX := fun ts t W => run_max4 (P := Try.prog) ts t a b c d W
  have BW := Lib.hid ((Below.refl w.heap.size w).alloc (Nat.le_refl _) (.cells #[.int .i64 a, .int .i64 b, .int .i64 c, .int .i64 d] 67))
  obtain ⟨x, hx⟩ : ∃ x, min (min (min a b) c) d = x := ⟨_, rfl⟩
  obtain ⟨y, hy⟩ : ∃ y, max (max (max a b) c) d = y := ⟨_, rfl⟩
  rw [hx] at MN
  rw [hy] at MX
  by_cases h1 : 0 ≤ x
  · by_cases h2 : y ≤ 1048576
    · rw [decide_eq_true (show rtOk a b c d from ⟨⟨by omega, by omega⟩, ⟨by omega, by omega⟩, ⟨by omega, by omega⟩, ⟨by omega, by omega⟩⟩)]
      clear hx hy
      unfold rtV
      go_enter Try.func38, Try.ntmps38
      go_wp2_with fail
      go_ret
      exact ⟨by simp [h1, h2], BW.out⟩
    · rw [decide_eq_false (show ¬ rtOk a b c d by rintro ⟨⟨_, _⟩, ⟨_, _⟩, ⟨_, _⟩, ⟨_, _⟩⟩; omega)]
      clear hx hy
      unfold rtV
      go_enter Try.func38, Try.ntmps38
      go_wp2_with fail
      go_ret
      exact ⟨by simp [h1, h2], BW.out⟩
  · rw [decide_eq_false (show ¬ rtOk a b c d by rintro ⟨⟨_, _⟩, ⟨_, _⟩, ⟨_, _⟩, ⟨_, _⟩⟩; omega)]
    clear hx hy
    unfold rtV
    go_enter Try.func38, Try.ntmps38
    go_wp2_with fail
    go_ret
    exact ⟨by simp [h1], BW.out⟩
/-- what a place costs, by what all riders cost -/
def stpV (a b P dir : Int) : Int := if 0 < dir then a + P else if dir < 0 then max 0 (b - P) else 0
set_option maxHeartbeats 400000 in
theorem estep_any (a b c d dir r P : Int) (w : World) (ha : okR a) (hb : okR b) (hP : c * r = P) (P0 : 0 ≤ P) (P1 : P ≤ 1099511627776) :
    Calls Try.prog 40 #[rtV a b c d, .int .i64 dir, .int .i64 r] w fun e w' => e = .returned (.int .i64 (stpV a b P dir)) ∧ Below w.heap.size w w' := by
  have hw : IntKind.i64.wrap (c * r) = P := by rw [hP]; exact IntWalk.i64_in _ (by omega)
  have BW := Lib.hid ((Below.refl w.heap.size w).alloc (Nat.le_refl _) (.cells #[.int .i64 a, .int .i64 b, .int .i64 c, .int .i64 d] 67))
  obtain ⟨a0, a1⟩ := ha
  obtain ⟨b0, b1⟩ := hb
  clear hP
  unfold rtV stpV
  by_cases h1 : 0 < dir
  · rw [if_pos h1]
    go_enter Try.func40, Try.ntmps40
    go_wp2_with fail
    go_ret
    exact ⟨rfl, BW.out⟩
  · rw [if_neg h1]
    by_cases h2 : dir < 0
    · rw [if_pos h2]
      obtain ⟨m, hm⟩ : ∃ m, max 0 (b - P) = m := ⟨_, rfl⟩
      rw [hm]
      go_enter Try.func40, Try.ntmps40
      go_wp2_with fail
      all_goals go_ret
      all_goals exact ⟨eret (by omega), BW.out⟩
    · rw [if_neg h2]
      go_enter Try.func40, Try.ntmps40
      go_wp2_with fail
      go_ret
      exact ⟨rfl, BW.out⟩
set_option maxHeartbeats 1000000 in
theorem lstep_any (a b c d dir r P : Int) (w : World) (ha : okR a) (hb : okR b) (hP : r * c = P) (P0 : 0 ≤ P) (P1 : P ≤ 1099511627776) :
    Calls Try.prog 41 #[rtV a b c d, .int .i64 dir, .int .i64 r] w fun e w' => e = .returned (.int .i64 (stpV a b P dir)) ∧ Below w.heap.size w w' := by
  have hw : IntKind.i64.wrap (r * c) = P := by rw [hP]; exact IntWalk.i64_in _ (by omega)
  have BW := Lib.hid ((Below.refl w.heap.size w).alloc (Nat.le_refl _) (.cells #[.int .i64 a, .int .i64 b, .int .i64 c, .int .i64 d] 67))
  obtain ⟨a0, a1⟩ := ha
  obtain ⟨b0, b1⟩ := hb
  clear hP
  unfold rtV stpV
  by_cases h1 : 0 < dir
  · rw [if_pos h1]
    go_enter Try.func41, Try.ntmps41
    go_wp2_with fail
    go_ret
    exact ⟨rfl, BW.out⟩
  · rw [if_neg h1]
    by_cases h2 : dir < 0
    · rw [if_pos h2]
      by_cases h3 : P < b
      · rw [show max 0 (b - P) = b - P by omega]
        go_enter Try.func41, Try.ntmps41
        go_wp2_with fail
        go_ret
        exact ⟨rfl, BW.out⟩
      · rw [show max 0 (b - P) = 0 by omega]
        go_enter Try.func41, Try.ntmps41
        go_wp2_with fail
        go_ret
        exact ⟨rfl, BW.out⟩
    · rw [if_neg h2]
      go_enter Try.func41, Try.ntmps41
      go_wp2_with fail
      go_ret
      exact ⟨rfl, BW.out⟩
set_option maxHeartbeats 400000 in
theorem enalive (w : World) : Calls Try.prog 39 #[] w fun e w' => e = .returned (.bool true) ∧ Below w.heap.size w w' := by
  have K1 := fun w => estep_any 0 5 2 0 (-1) 3 6 w (by decide) (by decide) (by decide) (by decide) (by decide)
  have K2 := fun w => estep_any 5 0 2 0 1 3 6 w (by decide) (by decide) (by decide) (by decide) (by decide)
  rw [show stpV 0 5 6 (-1) = 0 by decide] at K1
  rw [show stpV 5 0 6 1 = 11 by decide] at K2
  unfold rtV at K1 K2
  have H1 := Lib.hid K1
  have H2 := Lib.hid K2
  clear K1 K2
  go_enter Try.func39, Try.ntmps39
  go_wp2_with fail
  refine (H1.out _).mono ?_
  rintro e w1 ⟨rfl, hb1⟩
  go_wp2_with fail
  refine (H2.out _).mono ?_
  rintro e w2 ⟨rfl, hb2⟩
  go_wp2_with fail
  go_ret
  exact ⟨rfl, hb1.trans (hb2.mono hb1.size)⟩
end Go.Proofs.Ytcofafiacpecnaa
