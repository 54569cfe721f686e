/- Contracts of the program's sets: up, down, Shift. -/
import Derived.Test.YtdcollehdhkngaaDoorRows
import Derived.Test.YtdcollehdhkngaaDoorRowKit
import Derived.Test.YtdcollehdhkngaaDoorBlocks
import Derived.Test.YtdcollehdhkngaaDoorBitsMath
import Derived.Test.YtdcollehdhkngaaDoorBitsA2
import Derived.Test.YtdcollehdhkngaaDoorBitsD
import Derived.WalkKit
import Derived.IntWalk
import Derived.Lib.Hide
import Derived.WalkSpells
import Derived.WalkLawsBesides
import Derived.Laws.CopyOwn
import Derived.Deep.QuietTactic
import Derived.BigQuiet
import Derived.BigRegion
namespace Go.Proofs.YtdcollehdhkngaaDoor
open Go.RowKit
set_option linter.unusedSimpArgs false
set_option linter.unusedVariables false
/-- the set, greater by k -/
def shF (F : Nat → Bool) (k : Int) (j : Nat) : Bool := decide (0 ≤ (j : Int) - k) && decide ((j : Int) - k < 128) && F ((j : Int) - k).toNat
theorem two64 : (18446744073709551616 : Nat) = 2 ^ 64 := by decide
theorem shl_bit (x k j : Nat) : (x * 2 ^ k % 18446744073709551616).testBit j = (decide (j < 64) && (decide (k ≤ j) && x.testBit (j - k))) := by
  rw [two64, Nat.testBit_mod_two_pow, Nat.testBit_mul_two_pow]
theorem shr_bit (x k j : Nat) : (x / 2 ^ k).testBit j = x.testBit (k + j) := by
  rw [Nat.testBit_div_two_pow, Nat.add_comm]
theorem shl_lt (x k : Nat) : x * 2 ^ k % 18446744073709551616 < 18446744073709551616 := Nat.mod_lt _ (by omega)
theorem shr_lt {x : Nat} (k : Nat) (h : x < 18446744073709551616) : x / 2 ^ k < 18446744073709551616 := Nat.lt_of_le_of_lt (Nat.div_le_self _ _) h
theorem up_low (F : Nat → Bool) (k : Nat) (hk : k < 64) : Value.agg #[.int .u64 ((wordX F * 2 ^ k % 18446744073709551616 : Nat) : Int), .int .u64 ((wordY F * 2 ^ k % 18446744073709551616 ||| wordX F / 2 ^ (64 - k) : Nat) : Int)] = setV (shF F k) := by
  refine setV_of (shl_lt _ _) (or_lt64 (shl_lt _ _) (shr_lt _ (wordX_lt F))) (fun j hj => ?_) (fun j hj => ?_)
  · rw [shl_bit, wordX_bit]
    unfold shF
    by_cases h : k ≤ j
    · rw [show ((j : Int) - k).toNat = j - k by omega]
      simp [hj, h, show j - k < 64 by omega, show (0 : Int) ≤ (j : Int) - k by omega, show (j : Int) - k < 128 by omega]
    · simp [h, show ¬ (0 : Int) ≤ (j : Int) - k by omega]
  · rw [Nat.testBit_or, shl_bit, shr_bit, wordY_bit, wordX_bit]
    unfold shF
    rw [show ((((64 + j : Nat) : Int)) - k).toNat = 64 + j - k by omega]
    have h1 : (0 : Int) ≤ ((64 + j : Nat) : Int) - k := by omega
    have h2 : ((64 + j : Nat) : Int) - k < 128 := by omega
    by_cases h : k ≤ j
    · simp only [hj, h, h1, h2, decide_true, Bool.true_and, show j - k < 64 by omega, show ¬ (64 - k + j < 64) by omega, decide_false, Bool.false_and, Bool.or_false, show 64 + (j - k) = 64 + j - k by omega]
    · simp only [hj, h, h1, h2, decide_true, Bool.true_and, decide_false, Bool.false_and, Bool.and_false, Bool.false_or, show 64 + j - k < 64 by omega, show 64 - k + j = 64 + j - k by omega]
theorem up_high (F : Nat → Bool) (k : Nat) (hk : k ≤ 64) : Value.agg #[.int .u64 0, .int .u64 ((wordX F * 2 ^ k % 18446744073709551616 : Nat) : Int)] = setV (shF F ((64 + k : Nat) : Int)) := by
  refine setV_of (x := 0) (by omega) (shl_lt _ _) (fun j hj => ?_) (fun j hj => ?_)
  · unfold shF
    simp only [show ¬ (0 : Int) ≤ (j : Int) - ((64 + k : Nat) : Int) by omega, decide_false, Bool.false_and, Bool.and_false, Nat.zero_testBit]
  · rw [shl_bit, wordX_bit]
    unfold shF
    by_cases h : k ≤ j
    · rw [show (((64 + j : Nat) : Int) - ((64 + k : Nat) : Int)).toNat = j - k by omega]
      simp only [hj, h, show j - k < 64 by omega, show (0 : Int) ≤ ((64 + j : Nat) : Int) - ((64 + k : Nat) : Int) by omega, show ((64 + j : Nat) : Int) - ((64 + k : Nat) : Int) < 128 by omega, decide_true, Bool.true_and]
    · simp only [h, show ¬ (0 : Int) ≤ ((64 + j : Nat) : Int) - ((64 + k : Nat) : Int) by omega, decide_false, Bool.false_and, Bool.and_false]
theorem down_low (F : Nat → Bool) (k : Nat) (hk : k < 64) : Value.agg #[.int .u64 ((wordX F / 2 ^ k ||| wordY F * 2 ^ (64 - k) % 18446744073709551616 : Nat) : Int), .int .u64 ((wordY F / 2 ^ k : Nat) : Int)] = setV (shF F (-(k : Int))) := by
  refine setV_of (or_lt64 (shr_lt _ (wordX_lt F)) (shl_lt _ _)) (shr_lt _ (wordY_lt F)) (fun j hj => ?_) (fun j hj => ?_)
  · rw [Nat.testBit_or, shl_bit, shr_bit, wordY_bit, wordX_bit]
    unfold shF
    rw [show ((j : Int) - -(k : Int)).toNat = k + j by omega]
    have h1 : (0 : Int) ≤ (j : Int) - -(k : Int) := by omega
    have h2 : (j : Int) - -(k : Int) < 128 := by omega
    by_cases h : k + j < 64
    · simp only [hj, h, h1, h2, decide_true, Bool.true_and, show ¬ (64 - k ≤ j) by omega, decide_false, Bool.false_and, Bool.or_false]
    · simp only [hj, h, h1, h2, decide_true, Bool.true_and, decide_false, Bool.false_and, Bool.false_or, show 64 - k ≤ j by omega, show j - (64 - k) < 64 by omega, show 64 + (j - (64 - k)) = k + j by omega]
  · rw [shr_bit, wordY_bit]
    unfold shF
    have h1 : (0 : Int) ≤ ((64 + j : Nat) : Int) - -(k : Int) := by omega
    by_cases h : k + j < 64
    · rw [show (((64 + j : Nat) : Int) - -(k : Int)).toNat = 64 + (k + j) by omega]
      simp only [h, h1, show ((64 + j : Nat) : Int) - -(k : Int) < 128 by omega, decide_true, Bool.true_and]
    · simp only [h, show ¬ ((64 + j : Nat) : Int) - -(k : Int) < 128 by omega, decide_false, Bool.false_and, Bool.and_false]
theorem down_high (F : Nat → Bool) (k : Nat) (hk : k ≤ 64) : Value.agg #[.int .u64 ((wordY F / 2 ^ k : Nat) : Int), .int .u64 0] = setV (shF F (-((64 + k : Nat) : Int))) := by
  refine setV_of (y := 0) (shr_lt _ (wordY_lt F)) (by omega) (fun j hj => ?_) (fun j hj => ?_)
  · rw [shr_bit, wordY_bit]
    unfold shF
    have h1 : (0 : Int) ≤ (j : Int) - -((64 + k : Nat) : Int) := by omega
    by_cases h : k + j < 64
    · rw [show ((j : Int) - -((64 + k : Nat) : Int)).toNat = 64 + (k + j) by omega]
      simp only [h, h1, show (j : Int) - -((64 + k : Nat) : Int) < 128 by omega, decide_true, Bool.true_and]
    · simp only [h, show ¬ (j : Int) - -((64 + k : Nat) : Int) < 128 by omega, decide_false, Bool.false_and, Bool.and_false]
  · unfold shF
    simp only [show ¬ ((64 + j : Nat) : Int) - -((64 + k : Nat) : Int) < 128 by omega, decide_false, Bool.false_and, Bool.and_false, Nat.zero_testBit]
theorem wrap_mul (x k : Nat) : IntKind.u64.wrap ((x : Int) * 2 ^ k) = ((x * 2 ^ k % 18446744073709551616 : Nat) : Int) := by
  rw [IntKind.wrap_u64, Int.natCast_emod, Int.natCast_mul, Int.natCast_pow]; rfl
theorem div_pow (x k : Nat) : (x : Int) / 2 ^ k = ((x / 2 ^ k : Nat) : Int) := by
  rw [Int.natCast_ediv, Int.natCast_pow]; rfl
set_option maxRecDepth 100000 in
set_option maxHeartbeats 1000000 in
theorem pup_high (F : Nat → Bool) (k : Nat) (w : World) (hk : k ≤ 64) :
    Calls Tryd.prog 88 #[setV F, .int .i64 ((64 + k : Nat) : Int)] w fun e w' => e = .returned (setV (shF F ((64 + k : Nat) : Int))) ∧ Below w.heap.size w w' := by
  have hx := wordX_lt F
  have hy := wordY_lt F
  rw [← up_high F k hk]
  unfold setV
  obtain ⟨x, hX⟩ : ∃ x, wordX F = x := ⟨_, rfl⟩
  obtain ⟨y, hY⟩ : ∃ y, wordY F = y := ⟨_, rfl⟩
  rw [hX] at hx ⊢
  rw [hY] at hy ⊢
  clear hX hY
  go_enter Tryd.func88, Tryd.ntmps88
  go_wp2_with fail
  refine bodyPost_ret (v := .agg #[.int .u64 0, .int .u64 (IntKind.u64.wrap ((x : Int) * 2 ^ k))]) (by simp [results, Tryd.results88, go_sem]) rfl ⟨by rw [wrap_mul], ?_⟩
  first
    | exact (((Below.refl w.heap.size w).alloc (Nat.le_refl _) _).alloc (by simp) _).drew
    | exact ((Below.refl w.heap.size w).alloc (Nat.le_refl _) _).alloc (by simp) _
    | exact (((Below.refl w.heap.size w).alloc (Nat.le_refl _) _).alloc (by simp) _).drew.drew
set_option maxRecDepth 100000 in
set_option maxHeartbeats 1000000 in
theorem pup_low (F : Nat → Bool) (k : Nat) (w : World) (hk : k < 64) :
    Calls Tryd.prog 88 #[setV F, .int .i64 k] w fun e w' => e = .returned (setV (shF F k)) ∧ Below w.heap.size w w' := by
  have hx := wordX_lt F
  have hy := wordY_lt F
  rw [← up_low F k hk]
  unfold setV
  obtain ⟨x, hX⟩ : ∃ x, wordX F = x := ⟨_, rfl⟩
  obtain ⟨y, hY⟩ : ∃ y, wordY F = y := ⟨_, rfl⟩
  rw [hX] at hx ⊢
  rw [hY] at hy ⊢
  clear hX hY
  go_enter Tryd.func88, Tryd.ntmps88
  go_wp2_with fail
  go_region
  go_wp2_with fail
  refine bodyPost_ret (v := .agg #[.int .u64 (IntKind.u64.wrap ((x : Int) * 2 ^ k)), .int .u64 (bits .or .u64 (IntKind.u64.wrap ((y : Int) * 2 ^ k)) ((x : Int) / 2 ^ (64 - k)))]) (by simp [results, Tryd.results88, go_sem]) rfl ⟨by rw [wrap_mul, wrap_mul, div_pow, bits_or64 _ _ (shl_lt _ _) (shr_lt _ hx)], ?_⟩
  first
    | exact (((Below.refl w.heap.size w).alloc (Nat.le_refl _) _).alloc (by simp) _).drew
    | exact ((Below.refl w.heap.size w).alloc (Nat.le_refl _) _).alloc (by simp) _
    | exact (((Below.refl w.heap.size w).alloc (Nat.le_refl _) _).alloc (by simp) _).drew.drew
set_option maxRecDepth 100000 in
set_option maxHeartbeats 1000000 in
theorem pdown_high (F : Nat → Bool) (k : Nat) (w : World) (hk : k ≤ 64) :
    Calls Tryd.prog 87 #[setV F, .int .i64 ((64 + k : Nat) : Int)] w fun e w' => e = .returned (setV (shF F (-((64 + k : Nat) : Int)))) ∧ Below w.heap.size w w' := by
  have hx := wordX_lt F
  have hy := wordY_lt F
  rw [← down_high F k hk]
  unfold setV
  obtain ⟨x, hX⟩ : ∃ x, wordX F = x := ⟨_, rfl⟩
  obtain ⟨y, hY⟩ : ∃ y, wordY F = y := ⟨_, rfl⟩
  rw [hX] at hx ⊢
  rw [hY] at hy ⊢
  clear hX hY
  go_enter Tryd.func87, Tryd.ntmps87
  go_wp2_with fail
  refine bodyPost_ret (v := .agg #[.int .u64 ((y : Int) / 2 ^ k), .int .u64 0]) (by simp [results, Tryd.results87, go_sem]) rfl ⟨by rw [div_pow], ?_⟩
  first
    | exact (((Below.refl w.heap.size w).alloc (Nat.le_refl _) _).alloc (by simp) _).drew
    | exact ((Below.refl w.heap.size w).alloc (Nat.le_refl _) _).alloc (by simp) _
    | exact (((Below.refl w.heap.size w).alloc (Nat.le_refl _) _).alloc (by simp) _).drew.drew
set_option maxRecDepth 100000 in
set_option maxHeartbeats 1000000 in
theorem pdown_low (F : Nat → Bool) (k : Nat) (w : World) (hk : k < 64) :
    Calls Tryd.prog 87 #[setV F, .int .i64 k] w fun e w' => e = .returned (setV (shF F (-(k : Int)))) ∧ Below w.heap.size w w' := by
  have hx := wordX_lt F
  have hy := wordY_lt F
  rw [← down_low F k hk]
  unfold setV
  obtain ⟨x, hX⟩ : ∃ x, wordX F = x := ⟨_, rfl⟩
  obtain ⟨y, hY⟩ : ∃ y, wordY F = y := ⟨_, rfl⟩
  rw [hX] at hx ⊢
  rw [hY] at hy ⊢
  clear hX hY
  go_enter Tryd.func87, Tryd.ntmps87
  go_wp2_with fail
  go_region
  go_wp2_with fail
  refine bodyPost_ret (v := .agg #[.int .u64 (bits .or .u64 ((x : Int) / 2 ^ k) (IntKind.u64.wrap ((y : Int) * 2 ^ (64 - k)))), .int .u64 ((y : Int) / 2 ^ k)]) (by simp [results, Tryd.results87, go_sem]) rfl ⟨by rw [wrap_mul, div_pow, div_pow, bits_or64 _ _ (shr_lt _ hx) (shl_lt _ _)], ?_⟩
  first
    | exact (((Below.refl w.heap.size w).alloc (Nat.le_refl _) _).alloc (by simp) _).drew
    | exact ((Below.refl w.heap.size w).alloc (Nat.le_refl _) _).alloc (by simp) _
    | exact (((Below.refl w.heap.size w).alloc (Nat.le_refl _) _).alloc (by simp) _).drew.drew
theorem up_any (F : Nat → Bool) (k : Int) (w : World) (h0 : 0 ≤ k) (h1 : k ≤ 128) :
    Calls Tryd.prog 88 #[setV F, .int .i64 k] w fun e w' => e = .returned (setV (shF F k)) ∧ Below w.heap.size w w' := by
  obtain ⟨n, rfl⟩ := Int.eq_ofNat_of_zero_le h0
  rcases Nat.lt_or_ge n 64 with h | h
  · exact pup_low F n w h
  · obtain ⟨m, rfl⟩ : ∃ m, n = 64 + m := ⟨n - 64, by omega⟩
    exact pup_high F m w (by omega)
theorem down_any (F : Nat → Bool) (k : Int) (w : World) (h0 : 0 ≤ k) (h1 : k ≤ 128) :
    Calls Tryd.prog 87 #[setV F, .int .i64 k] w fun e w' => e = .returned (setV (shF F (-k))) ∧ Below w.heap.size w w' := by
  obtain ⟨n, rfl⟩ := Int.eq_ofNat_of_zero_le h0
  rcases Nat.lt_or_ge n 64 with h | h
  · exact pdown_low F n w h
  · obtain ⟨m, rfl⟩ : ∃ m, n = 64 + m := ⟨n - 64, by omega⟩
    exact pdown_high F m w (by omega)
theorem shF_far (F : Nat → Bool) {k : Int} (h : k < -128 ∨ 128 < k) : setV (shF F k) = setV (shF F (if k < 0 then -128 else 128)) := setV_congr fun j hj => by
  unfold shF
  split
  · simp only [show ¬ (j : Int) - k < 128 by omega, show ¬ (j : Int) - -128 < 128 by omega, decide_false, Bool.false_and, Bool.and_false]
  · simp only [show ¬ (0 : Int) ≤ (j : Int) - k by omega, show ¬ (0 : Int) ≤ (j : Int) - 128 by omega, decide_false, Bool.false_and]
set_option maxRecDepth 100000 in
set_option maxHeartbeats 1000000 in
theorem shift_a (F : Nat → Bool) (k : Int) (w : World) (h : k ≤ -128) :
    Calls Tryd.prog 67 #[setV F, .int .i64 k] w fun e w' => e = .returned (setV (shF F (-128))) ∧ Below w.heap.size w w' := by
  have UP : ∀ w, _ := fun w => down_any F 128 w (by omega) (by omega)
  have h2 : k ≤ 128 := by omega
  unfold setV at UP
  unfold setV
  obtain ⟨x, hX⟩ : ∃ x, wordX F = x := ⟨_, rfl⟩
  obtain ⟨y, hY⟩ : ∃ y, wordY F = y := ⟨_, rfl⟩
  obtain ⟨x', hX'⟩ : ∃ x, wordX (shF F (-128)) = x := ⟨_, rfl⟩
  obtain ⟨y', hY'⟩ : ∃ y, wordY (shF F (-128)) = y := ⟨_, rfl⟩
  rw [hX, hY, hX', hY'] at UP
  rw [hX, hY, hX', hY']
  have UPh := Lib.hid UP
  clear hX hY hX' hY' UP
  go_enter Tryd.func67, Tryd.ntmps67
  go_wp2_with (go_at_call 87; refine (UPh.out _).mono ?_; rintro e w2 ⟨rfl, hb2⟩; obtain ⟨B1, B2, B3, B4⟩ := two_blk hb2; obtain ⟨p0, p1, q0, q1⟩ := B2.two; have B5 := Lib.hid B4; clear hb2 B1 B4)
  refine bodyPost_ret (v := .agg #[.int .u64 x', .int .u64 y']) (by simp [results, Tryd.results67, go_sem, *]) rfl ⟨rfl, (B5.out.setCell (by show w.heap.size ≤ w.heap.size + 1; omega) _).setCell (by show w.heap.size ≤ w.heap.size + 1; omega) _⟩
set_option maxRecDepth 100000 in
set_option maxHeartbeats 1000000 in
theorem shift_b (F : Nat → Bool) (k : Int) (w : World) (h : -128 < k) (hn : k < 0) :
    Calls Tryd.prog 67 #[setV F, .int .i64 k] w fun e w' => e = .returned (setV (shF F k)) ∧ Below w.heap.size w w' := by
  have UP : ∀ w, _ := fun w => down_any F (-k) w (by omega) (by omega)
  rw [Int.neg_neg] at UP
  have h2 : k ≤ 128 := by omega
  unfold setV at UP
  unfold setV
  obtain ⟨x, hX⟩ : ∃ x, wordX F = x := ⟨_, rfl⟩
  obtain ⟨y, hY⟩ : ∃ y, wordY F = y := ⟨_, rfl⟩
  obtain ⟨x', hX'⟩ : ∃ x, wordX (shF F k) = x := ⟨_, rfl⟩
  obtain ⟨y', hY'⟩ : ∃ y, wordY (shF F k) = y := ⟨_, rfl⟩
  rw [hX, hY, hX', hY'] at UP
  rw [hX, hY, hX', hY']
  have UPh := Lib.hid UP
  clear hX hY hX' hY' UP
  go_enter Tryd.func67, Tryd.ntmps67
  go_wp2_with (go_at_call 87; refine (UPh.out _).mono ?_; rintro e w2 ⟨rfl, hb2⟩; obtain ⟨B1, B2, B3, B4⟩ := two_blk hb2; obtain ⟨p0, p1, q0, q1⟩ := B2.two; have B5 := Lib.hid B4; clear hb2 B1 B4)
  refine bodyPost_ret (v := .agg #[.int .u64 x', .int .u64 y']) (by simp [results, Tryd.results67, go_sem, *]) rfl ⟨rfl, (B5.out.setCell (by show w.heap.size ≤ w.heap.size + 1; omega) _).setCell (by show w.heap.size ≤ w.heap.size + 1; omega) _⟩
set_option maxRecDepth 100000 in
set_option maxHeartbeats 1000000 in
theorem shift_c (F : Nat → Bool) (k : Int) (w : World) (h : 0 ≤ k) (h2 : k ≤ 128) :
    Calls Tryd.prog 67 #[setV F, .int .i64 k] w fun e w' => e = .returned (setV (shF F k)) ∧ Below w.heap.size w w' := by
  have UP : ∀ w, _ := fun w => up_any F k w (by omega) (by omega)
  have h3 : -128 < k := by omega
  unfold setV at UP
  unfold setV
  obtain ⟨x, hX⟩ : ∃ x, wordX F = x := ⟨_, rfl⟩
  obtain ⟨y, hY⟩ : ∃ y, wordY F = y := ⟨_, rfl⟩
  obtain ⟨x', hX'⟩ : ∃ x, wordX (shF F k) = x := ⟨_, rfl⟩
  obtain ⟨y', hY'⟩ : ∃ y, wordY (shF F k) = y := ⟨_, rfl⟩
  rw [hX, hY, hX', hY'] at UP
  rw [hX, hY, hX', hY']
  have UPh := Lib.hid UP
  clear hX hY hX' hY' UP
  go_enter Tryd.func67, Tryd.ntmps67
  go_wp2_with (go_at_call 88; refine (UPh.out _).mono ?_; rintro e w2 ⟨rfl, hb2⟩; obtain ⟨B1, B2, B3, B4⟩ := two_blk hb2; obtain ⟨p0, p1, q0, q1⟩ := B2.two; have B5 := Lib.hid B4; clear hb2 B1 B4)
  refine bodyPost_ret (v := .agg #[.int .u64 x', .int .u64 y']) (by simp [results, Tryd.results67, go_sem, *]) rfl ⟨rfl, (B5.out.setCell (by show w.heap.size ≤ w.heap.size + 1; omega) _).setCell (by show w.heap.size ≤ w.heap.size + 1; omega) _⟩
set_option maxRecDepth 100000 in
set_option maxHeartbeats 1000000 in
theorem shift_d (F : Nat → Bool) (k : Int) (w : World) (h : 128 < k) :
    Calls Tryd.prog 67 #[setV F, .int .i64 k] w fun e w' => e = .returned (setV (shF F 128)) ∧ Below w.heap.size w w' := by
  have UP : ∀ w, _ := fun w => up_any F 128 w (by omega) (by omega)
  unfold setV at UP
  unfold setV
  obtain ⟨x, hX⟩ : ∃ x, wordX F = x := ⟨_, rfl⟩
  obtain ⟨y, hY⟩ : ∃ y, wordY F = y := ⟨_, rfl⟩
  obtain ⟨x', hX'⟩ : ∃ x, wordX (shF F 128) = x := ⟨_, rfl⟩
  obtain ⟨y', hY'⟩ : ∃ y, wordY (shF F 128) = y := ⟨_, rfl⟩
  rw [hX, hY, hX', hY'] at UP
  rw [hX, hY, hX', hY']
  have UPh := Lib.hid UP
  clear hX hY hX' hY' UP
  go_enter Tryd.func67, Tryd.ntmps67
  go_wp2_with (go_at_call 88; refine (UPh.out _).mono ?_; rintro e w2 ⟨rfl, hb2⟩; obtain ⟨B1, B2, B3, B4⟩ := two_blk hb2; obtain ⟨p0, p1, q0, q1⟩ := B2.two; have B5 := Lib.hid B4; clear hb2 B1 B4)
  refine bodyPost_ret (v := .agg #[.int .u64 x', .int .u64 y']) (by simp [results, Tryd.results67, go_sem, *]) rfl ⟨rfl, (B5.out.setCell (by show w.heap.size ≤ w.heap.size + 1; omega) _).setCell (by show w.heap.size ≤ w.heap.size + 1; omega) _⟩
theorem shift_any (F : Nat → Bool) (k : Int) (w : World) :
    Calls Tryd.prog 67 #[setV F, .int .i64 k] w fun e w' => e = .returned (setV (shF F k)) ∧ Below w.heap.size w w' := by
  rcases (show k < -128 ∨ k = -128 ∨ (-128 < k ∧ k < 0) ∨ (0 ≤ k ∧ k ≤ 128) ∨ 128 < k by omega) with h | h | ⟨h, h2⟩ | ⟨h, h2⟩ | h
  · rw [shF_far F (Or.inl h), if_pos (by omega)]; exact shift_a F k w (by omega)
  · subst h; exact shift_a F (-128) w (by omega)
  · exact shift_b F k w h h2
  · exact shift_c F k w h h2
  · rw [shF_far F (Or.inr h), if_neg (by omega)]; exact shift_d F k w h
end Go.Proofs.YtdcollehdhkngaaDoor
