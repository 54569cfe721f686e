/- Contracts of the program's sets: With, Without, Has, Of. -/
import Derived.Test.YtdcollehdhkngaaDoorRows
import Derived.Test.YtdcollehdhkngaaDoorBitsMath
import Derived.Test.YtdcollehdhkngaaDoorBitsA2
import Derived.WalkKit
import Derived.Lib.Hide
import Derived.WalkSpells
import Derived.WalkLawsBesides
import Derived.Laws.CopyOwn
import Derived.Deep.QuietTactic
import Derived.BigQuiet
namespace Go.Proofs.YtdcollehdhkngaaDoor
open Go.RowKit
set_option linter.unusedSimpArgs false
set_option linter.unusedVariables false

theorem pow_lt64 {m : Nat} (h : m < 64) : 2 ^ m < 18446744073709551616 := by
  have := Nat.pow_lt_pow_right (a := 2) (by omega) h
  have e : (2 : Nat) ^ 64 = 18446744073709551616 := by decide
  omega
theorem wrap_pow {m : Nat} (h : m < 64) : IntKind.u64.wrap ((2 : Int) ^ m) = ((2 ^ m : Nat) : Int) := by
  have := pow_lt64 h
  rw [IntKind.wrap_u64, Int.natCast_pow, Int.emod_eq_of_lt]
  · rfl
  · exact Int.pow_nonneg (by omega)
  · have e : ((2 ^ m : Nat) : Int) < 18446744073709551616 := by omega
    rwa [Int.natCast_pow] at e
theorem retB {a b : Bool} (h : a = b) : Ending.returned (.bool a) = .returned (.bool b) := by rw [h]
theorem ret2n {k l : IntKind} {a b c d : Int} (h : a = c) (h' : b = d) : Ending.returned (.tuple #[.int k a, .int l b]) = .returned (.tuple #[.int k c, .int l d]) := by rw [h, h']
set_option maxRecDepth 100000 in
set_option maxHeartbeats 400000 in
theorem bit_any (n : Nat) (w : World) (hn : n < 128) :
    Calls Tryd.prog 65 #[.int .i64 n] w fun e w' => e = .returned (.tuple #[.int .i64 ((n / 64 : Nat) : Int), .int .u64 ((2 ^ (n % 64) : Nat) : Int)]) ∧ ∃ k, w' = w.drewN k := by
  have hm : n % 64 < 64 := by omega
  go_enter Tryd.func65, Tryd.ntmps65
  go_wp2
  go_quiet (fail)
  go_wp2
  go_ret2
  exact ⟨ret2n rfl (wrap_pow hm), nq, rfl⟩

set_option maxHeartbeats 400000 in
theorem fits_yes (n : Nat) (w : World) (hn : n < 128) :
    Calls Tryd.prog 64 #[.int .i64 n] w fun e w' => e = .returned (.bool true) ∧ w = w' := by
  go_enter Tryd.func64, Tryd.ntmps64
  go_wp2
  go_ret
  exact ⟨retB (by simp; omega), rfl⟩
set_option maxHeartbeats 400000 in
theorem fits_no (z : Int) (w : World) (hn : z < 0 ∨ 128 ≤ z) :
    Calls Tryd.prog 64 #[.int .i64 z] w fun e w' => e = .returned (.bool false) ∧ w = w' := by
  rcases hn with h | h
  · go_enter Tryd.func64, Tryd.ntmps64
    go_wp2
    go_ret
    exact ⟨rfl, rfl⟩
  · go_enter Tryd.func64, Tryd.ntmps64
    go_wp2
    go_ret
    exact ⟨retB (by simp; omega), rfl⟩

theorem bv64 (a : Nat) : BitVec.ofInt 64 (a : Int) = BitVec.ofNat 64 a := by simp
theorem or_lt64 {a b : Nat} (ha : a < 18446744073709551616) (hb : b < 18446744073709551616) : a ||| b < 18446744073709551616 := Nat.or_lt_two_pow (n := 64) ha hb
theorem wrap_nat64 {a : Nat} (ha : a < 18446744073709551616) : IntKind.u64.wrap (a : Int) = a := by rw [IntKind.wrap_u64]; omega
theorem bits_or64 (a b : Nat) (ha : a < 18446744073709551616) (hb : b < 18446744073709551616) : bits .or .u64 (a : Int) (b : Int) = ((a ||| b : Nat) : Int) := by
  unfold bits
  show IntKind.u64.wrap ((BitVec.ofInt 64 (a : Int) ||| BitVec.ofInt 64 (b : Int)).toNat : Int) = _
  rw [bv64, bv64, BitVec.toNat_or, BitVec.toNat_ofNat, BitVec.toNat_ofNat, Nat.mod_eq_of_lt ha, Nat.mod_eq_of_lt hb, wrap_nat64 (or_lt64 ha hb)]
theorem bits_and64 (a b : Nat) (ha : a < 18446744073709551616) (hb : b < 18446744073709551616) : bits .and .u64 (a : Int) (b : Int) = ((a &&& b : Nat) : Int) := by
  unfold bits
  show IntKind.u64.wrap ((BitVec.ofInt 64 (a : Int) &&& BitVec.ofInt 64 (b : Int)).toNat : Int) = _
  rw [bv64, bv64, BitVec.toNat_and, BitVec.toNat_ofNat, BitVec.toNat_ofNat, Nat.mod_eq_of_lt ha, Nat.mod_eq_of_lt hb, wrap_nat64 (Nat.lt_of_le_of_lt Nat.and_le_left ha)]
/-- the set with n -/
def withF (F : Nat → Bool) (n : Int) (j : Nat) : Bool := F j || ((j : Int) == n)
theorem setV_or_low (F : Nat → Bool) (n : Nat) (hn : n < 64) : Value.agg #[.int .u64 ((wordX F ||| 2 ^ n : Nat) : Int), .int .u64 (wordY F)] = setV (withF F n) := by
  refine setV_of (or_lt64 (wordX_lt F) (pow_lt64 hn)) (wordY_lt F) (fun j hj => ?_) (fun j hj => ?_)
  · rw [Nat.testBit_or, wordX_bit, Nat.testBit_two_pow]
    unfold withF
    simp only [hj, decide_true, Bool.true_and]
    congr 1
    rw [Bool.eq_iff_iff]; simp; omega
  · rw [wordY_bit]; unfold withF
    simp only [hj, decide_true, Bool.true_and]
    have : (((64 + j : Nat) : Int) == (n : Int)) = false := by rw [beq_eq_false_iff_ne]; omega
    rw [this, Bool.or_false]
theorem setV_or_high (F : Nat → Bool) (n : Nat) (h : 64 ≤ n) (hn : n < 128) : Value.agg #[.int .u64 (wordX F), .int .u64 ((wordY F ||| 2 ^ (n - 64) : Nat) : Int)] = setV (withF F n) := by
  refine setV_of (wordX_lt F) (or_lt64 (wordY_lt F) (pow_lt64 (by omega))) (fun j hj => ?_) (fun j hj => ?_)
  · rw [wordX_bit]; unfold withF
    simp only [hj, decide_true, Bool.true_and]
    have : (((j : Nat) : Int) == (n : Int)) = false := by rw [beq_eq_false_iff_ne]; omega
    rw [this, Bool.or_false]
  · rw [Nat.testBit_or, wordY_bit, Nat.testBit_two_pow]
    unfold withF
    simp only [hj, decide_true, Bool.true_and]
    congr 1
    rw [Bool.eq_iff_iff]; simp; omega
set_option maxRecDepth 100000 in
set_option maxHeartbeats 400000 in
theorem with_low (F : Nat → Bool) (n : Nat) (w : World) (hn : n < 64) :
    Calls Tryd.prog 15 #[setV F, .int .i64 n] w fun e w' => e = .returned (setV (withF F n)) ∧ Below w.heap.size w w' := by
  have hn2 : n < 128 := by omega
  have e1 : n / 64 = 0 := by omega
  have e2 : n % 64 = n := by omega
  have hx := wordX_lt F
  have hy := wordY_lt F
  have hp : 2 ^ n < 18446744073709551616 := pow_lt64 hn
  have B := Lib.hid (bits_or64 _ _ hx hp)
  have S := Lib.hid (setV_or_low F n hn)
  unfold setV
  obtain ⟨x, hX⟩ : ∃ x, wordX F = x := ⟨_, rfl⟩
  obtain ⟨y, hY⟩ : ∃ y, wordY F = y := ⟨_, rfl⟩
  obtain ⟨q, hq⟩ : ∃ q, 2 ^ n = q := ⟨_, rfl⟩
  have BA := Lib.hid (fun w => bit_any n w hn2)
  rw [e1, e2, hq] at BA
  rw [hX] at hx S B ⊢
  rw [hY] at hy S ⊢
  rw [hq] at hp S B
  clear hq hX hY
  go_enter Tryd.func15, Tryd.ntmps15
  go_wp2_with (first
    | (go_at_call 65; refine (BA.out _).mono ?_; rintro e w' ⟨rfl, k, rfl⟩)
    | (go_at_call 64; refine (fits_yes _ _ hn2).mono ?_; rintro e w' ⟨rfl, rfl⟩))
  rw [B.out]
  refine bodyPost_ret (v := .agg #[.int .u64 ((x ||| q : Nat) : Int), .int .u64 y]) (by simp [results, Tryd.results15, go_sem]) rfl ⟨by rw [S.out]; rfl, ?_⟩
  exact (((below_drewN (((Below.refl w.heap.size w).alloc (Nat.le_refl _) _).alloc (by simp) _) _).setCell (Nat.le_refl _) _).setCell (by show w.heap.size ≤ w.heap.size + 1; omega) _).setCell (by show w.heap.size ≤ w.heap.size + 1; omega) _
set_option maxRecDepth 100000 in
set_option maxHeartbeats 400000 in
theorem with_high (F : Nat → Bool) (n : Nat) (w : World) (h : 64 ≤ n) (hn : n < 128) :
    Calls Tryd.prog 15 #[setV F, .int .i64 n] w fun e w' => e = .returned (setV (withF F n)) ∧ Below w.heap.size w w' := by
  have e1 : n / 64 = 1 := by omega
  have e2 : n % 64 = n - 64 := by omega
  have hx := wordX_lt F
  have hy := wordY_lt F
  have hp : 2 ^ (n - 64) < 18446744073709551616 := pow_lt64 (by omega)
  have B := Lib.hid (bits_or64 _ _ hy hp)
  have S := Lib.hid (setV_or_high F n h hn)
  unfold setV
  obtain ⟨x, hX⟩ : ∃ x, wordX F = x := ⟨_, rfl⟩
  obtain ⟨y, hY⟩ : ∃ y, wordY F = y := ⟨_, rfl⟩
  obtain ⟨q, hq⟩ : ∃ q, 2 ^ (n - 64) = q := ⟨_, rfl⟩
  have BA := Lib.hid (fun w => bit_any n w hn)
  rw [e1, e2, hq] at BA
  rw [hX] at hx S ⊢
  rw [hY] at hy S B ⊢
  rw [hq] at hp S B
  clear hq hX hY
  go_enter Tryd.func15, Tryd.ntmps15
  go_wp2_with (first
    | (go_at_call 65; refine (BA.out _).mono ?_; rintro e w' ⟨rfl, k, rfl⟩)
    | (go_at_call 64; refine (fits_yes _ _ hn).mono ?_; rintro e w' ⟨rfl, rfl⟩))
  rw [B.out]
  refine bodyPost_ret (v := .agg #[.int .u64 x, .int .u64 ((y ||| q : Nat) : Int)]) (by simp [results, Tryd.results15, go_sem]) rfl ⟨by rw [S.out]; rfl, ?_⟩
  exact (((below_drewN (((Below.refl w.heap.size w).alloc (Nat.le_refl _) _).alloc (by simp) _) _).setCell (Nat.le_refl _) _).setCell (by show w.heap.size ≤ w.heap.size + 1; omega) _).setCell (by show w.heap.size ≤ w.heap.size + 1; omega) _
end Go.Proofs.YtdcollehdhkngaaDoor
