/- Contracts of the sets: Has of the program and of the document, Without. -/
import Derived.Test.YteebeiflipfbkaaDoorRows
import Derived.Test.YteebeiflipfbkaaDoorRowKit
import Derived.Test.YteebeiflipfbkaaDoorBlocks
import Derived.Test.YteebeiflipfbkaaDoorBitsMath
import Derived.Test.YteebeiflipfbkaaDoorBitsA2
import Derived.Test.YteebeiflipfbkaaDoorBitsD
import Derived.Test.YteebeiflipfbkaaDoorBitsP
import Derived.WalkKit
import Derived.IntWalk
import Derived.Lib.Hide
import Derived.WalkSpells
import Derived.WalkLawsBesides
import Derived.Laws.CopyOwn
import Derived.Deep.QuietTactic
import Derived.Deep.LoopGhost
import Derived.BigQuiet
namespace Go.Proofs.YteebeiflipfbkaaDoor
open Go.RowKit
set_option linter.unusedSimpArgs false
set_option linter.unusedVariables false
/-- is a number in a set? -/
def hasF (F : Nat → Bool) (z : Int) : Bool := decide (0 ≤ z) && decide (z < 128) && F z.toNat
theorem hasF_out (F : Nat → Bool) {z : Int} (h : z < 0 ∨ 128 ≤ z) : hasF F z = false := by
  unfold hasF
  rcases h with h | h
  · simp; omega
  · simp; omega
theorem hasF_in (F : Nat → Bool) {n : Nat} (h : n < 128) : hasF F n = F n := by
  unfold hasF
  simp; omega
theorem and_pow (x n : Nat) : x &&& 2 ^ n = (x.testBit n).toNat * 2 ^ n := by
  apply Nat.eq_of_testBit_eq
  intro j
  rw [Nat.testBit_and, Nat.testBit_two_pow]
  cases h : x.testBit n
  · by_cases e : n = j
    · subst e; simp [h]
    · simp [e]
  · by_cases e : n = j
    · subst e; simp [h, Nat.testBit_two_pow_self]
    · simp [e, Nat.testBit_two_pow]
/-- a bit, looked at by its word's power -/
theorem bits_look (x n : Nat) (hx : x < 18446744073709551616) (hn : n < 64) : bits .and .u64 (x : Int) ((2 ^ n : Nat) : Int) = if x.testBit n then ((2 ^ n : Nat) : Int) else 0 := by
  rw [bits_and64 _ _ hx (pow_lt64 hn), and_pow]
  cases x.testBit n <;> simp
/-- the document's: a word, halved so many times -/
def hv (x : Nat) (k : Nat) : Nat := x / 2 ^ k
theorem hv_zero (x : Nat) : hv x 0 = x := by unfold hv; simp
theorem hv_succ (x k : Nat) : hv x (k + 1) = hv x k / 2 := by unfold hv; rw [Nat.pow_succ, Nat.div_div_eq_div_mul]
theorem hv_lt {x : Nat} (k : Nat) (h : x < 18446744073709551616) : hv x k < 18446744073709551616 := Nat.lt_of_le_of_lt (Nat.div_le_self _ _) h
theorem hv_bit (x k : Nat) : ((hv x k : Int) % 2 == 1) = x.testBit k := by
  unfold hv
  rw [Nat.testBit_eq_decide_div_mod_eq]
  generalize x / 2 ^ k = q
  rw [Bool.eq_iff_iff]; simp; omega
/-- a set without a number -/
def woutF (F : Nat → Bool) (z : Int) (j : Nat) : Bool := F j && !((j : Int) == z)
theorem woutF_out (F : Nat → Bool) {z : Int} (hz : z < 0 ∨ 128 ≤ z) : setV (woutF F z) = setV F := setV_congr fun j hj => by
  unfold woutF
  have : ((j : Int) == z) = false := by rw [beq_eq_false_iff_ne]; omega
  rw [this]; simp
theorem setV_an_low (F : Nat → Bool) (n : Nat) (hn : n < 64) : Value.agg #[.int .u64 ((anN (wordX F) (2 ^ n) : Nat) : Int), .int .u64 (wordY F)] = setV (woutF F n) := by
  refine setV_of (anN_lt _ _) (wordY_lt F) (fun j hj => ?_) (fun j hj => ?_)
  · rw [anN_bit _ _ _ hj, wordX_bit, Nat.testBit_two_pow]
    unfold woutF
    by_cases e : n = j
    · subst e; simp
    · have : ((j : Int) == (n : Int)) = false := by rw [beq_eq_false_iff_ne]; omega
      rw [this]; simp [hj, e]
  · rw [wordY_bit]
    unfold woutF
    have : (((64 + j : Nat) : Int) == (n : Int)) = false := by rw [beq_eq_false_iff_ne]; omega
    rw [this]; simp [hj]
theorem setV_an_high (F : Nat → Bool) (n : Nat) (h : 64 ≤ n) (hn : n < 128) : Value.agg #[.int .u64 (wordX F), .int .u64 ((anN (wordY F) (2 ^ (n - 64)) : Nat) : Int)] = setV (woutF F n) := by
  refine setV_of (wordX_lt F) (anN_lt _ _) (fun j hj => ?_) (fun j hj => ?_)
  · rw [wordX_bit]
    unfold woutF
    have : ((j : Int) == (n : Int)) = false := by rw [beq_eq_false_iff_ne]; omega
    rw [this]; simp [hj]
  · rw [anN_bit _ _ _ hj, wordY_bit, Nat.testBit_two_pow]
    unfold woutF
    by_cases e : n - 64 = j
    · have : (((64 + j : Nat) : Int) == (n : Int)) = true := by rw [beq_iff_eq]; omega
      rw [this]; simp [e]
    · have : (((64 + j : Nat) : Int) == (n : Int)) = false := by rw [beq_eq_false_iff_ne]; omega
      rw [this]; simp [hj, e]
set_option maxRecDepth 100000 in
set_option maxHeartbeats 400000 in
theorem wout_low (F : Nat → Bool) (n : Nat) (w : World) (hn : n < 64) :
    Calls Tryd.prog 31 #[setV F, .int .i64 n] w fun e w' => e = .returned (setV (woutF F n)) ∧ Below w.heap.size w w' := by
  have hn2 : n < 128 := by omega
  have e1 : n / 64 = 0 := by omega
  have e2 : n % 64 = n := by omega
  have B := Lib.hid (bits_an64 (wordX F) (2 ^ (n)))
  have S := Lib.hid (setV_an_low F n hn)
  unfold setV
  obtain ⟨x, hX⟩ : ∃ x, wordX F = x := ⟨_, rfl⟩
  obtain ⟨y, hY⟩ : ∃ y, wordY F = y := ⟨_, rfl⟩
  obtain ⟨q, hq⟩ : ∃ q, 2 ^ (n) = q := ⟨_, rfl⟩
  have BA := Lib.hid (fun w => bit_any n w hn2)
  have FY := Lib.hid (fun w => fits_yes n w hn2)
  rw [e1, e2, hq] at BA
  rw [hX] at S B ⊢
  rw [hY] at S  ⊢
  rw [hq] at S B
  clear hq hX hY
  go_enter Tryd.func31, Tryd.ntmps31
  go_wp2_with (first
    | (go_at_call 40; refine (BA.out _).mono ?_; rintro e w' ⟨rfl, k, rfl⟩)
    | (go_at_call 39; refine (FY.out _).mono ?_; rintro e w' ⟨rfl, rfl⟩))
  rw [B.out]
  refine bodyPost_ret (v := .agg #[.int .u64 ((anN x q : Nat) : Int), .int .u64 y]) (by simp [results, Tryd.results31, go_sem]) rfl ⟨by rw [S.out]; rfl, ?_⟩
  exact (((below_drewN (((Below.refl w.heap.size w).alloc (Nat.le_refl _) _).alloc (by simp) _) _).setCell (Nat.le_refl _) _).setCell (by show w.heap.size ≤ w.heap.size + 1; omega) _).setCell (by show w.heap.size ≤ w.heap.size + 1; omega) _
set_option maxRecDepth 100000 in
set_option maxHeartbeats 400000 in
theorem wout_high (F : Nat → Bool) (n : Nat) (w : World) (h : 64 ≤ n) (hn : n < 128) :
    Calls Tryd.prog 31 #[setV F, .int .i64 n] w fun e w' => e = .returned (setV (woutF F n)) ∧ Below w.heap.size w w' := by
  have hn2 : n < 128 := by omega
  have e1 : n / 64 = 1 := by omega
  have e2 : n % 64 = n - 64 := by omega
  have B := Lib.hid (bits_an64 (wordY F) (2 ^ (n - 64)))
  have S := Lib.hid (setV_an_high F n h hn)
  unfold setV
  obtain ⟨x, hX⟩ : ∃ x, wordX F = x := ⟨_, rfl⟩
  obtain ⟨y, hY⟩ : ∃ y, wordY F = y := ⟨_, rfl⟩
  obtain ⟨q, hq⟩ : ∃ q, 2 ^ (n - 64) = q := ⟨_, rfl⟩
  have BA := Lib.hid (fun w => bit_any n w hn2)
  have FY := Lib.hid (fun w => fits_yes n w hn2)
  rw [e1, e2, hq] at BA
  rw [hX] at S  ⊢
  rw [hY] at S B ⊢
  rw [hq] at S B
  clear hq hX hY
  go_enter Tryd.func31, Tryd.ntmps31
  go_wp2_with (first
    | (go_at_call 40; refine (BA.out _).mono ?_; rintro e w' ⟨rfl, k, rfl⟩)
    | (go_at_call 39; refine (FY.out _).mono ?_; rintro e w' ⟨rfl, rfl⟩))
  rw [B.out]
  refine bodyPost_ret (v := .agg #[.int .u64 x, .int .u64 ((anN y q : Nat) : Int)]) (by simp [results, Tryd.results31, go_sem]) rfl ⟨by rw [S.out]; rfl, ?_⟩
  exact (((below_drewN (((Below.refl w.heap.size w).alloc (Nat.le_refl _) _).alloc (by simp) _) _).setCell (Nat.le_refl _) _).setCell (by show w.heap.size ≤ w.heap.size + 1; omega) _).setCell (by show w.heap.size ≤ w.heap.size + 1; omega) _
set_option maxRecDepth 100000 in
set_option maxHeartbeats 400000 in
theorem wout_any (F : Nat → Bool) (z : Int) (w : World) :
    Calls Tryd.prog 31 #[setV F, .int .i64 z] w fun e w' => e = .returned (setV (woutF F z)) ∧ Below w.heap.size w w' := by
  by_cases hz : z < 0 ∨ 128 ≤ z
  · rw [woutF_out F hz]
    unfold setV
    obtain ⟨x, hX⟩ : ∃ x, wordX F = x := ⟨_, rfl⟩
    obtain ⟨y, hY⟩ : ∃ y, wordY F = y := ⟨_, rfl⟩
    rw [hX, hY]
    have FN := Lib.hid fun w => fits_no z w hz
    clear hX hY hz
    go_enter Tryd.func31, Tryd.ntmps31
    go_wp2_with (go_at_call 39; refine (FN.out _).mono ?_; rintro e w' ⟨rfl, rfl⟩)
    refine bodyPost_ret (v := .agg #[.int .u64 x, .int .u64 y]) (by simp [results, Tryd.results31, go_sem]) rfl ⟨rfl, ?_⟩
    exact ((Below.refl w.heap.size w).alloc (Nat.le_refl _) _).alloc (by simp) _
  · obtain ⟨n, rfl⟩ := Int.eq_ofNat_of_zero_le (show 0 ≤ z by omega)
    by_cases h : n < 64
    · exact wout_low F n w h
    · exact wout_high F n w (by omega) (by omega)
end Go.Proofs.YteebeiflipfbkaaDoor
