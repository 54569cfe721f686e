/- Contracts of the program's sets: With, Without, Has, Of. -/
import Derived.Test.YteebeiflipfbkaaDoorRows
import Derived.Test.YteebeiflipfbkaaDoorBitsMath
import Derived.Test.YteebeiflipfbkaaDoorBitsA2
import Derived.WalkKit
import Derived.Lib.Hide
import Derived.WalkSpells
import Derived.WalkLawsBesides
import Derived.Laws.CopyOwn
import Derived.Deep.QuietTactic
import Derived.BigQuiet
namespace Go.Proofs.YteebeiflipfbkaaDoor
open Go.RowKit
set_option linter.unusedSimpArgs false
set_option linter.unusedVariables false

theorem pow_lt64 {m : Nat} (h : m < 64) : 2 ^ m < 18446744073709551616 := by
  have := Nat.pow_lt_pow_right (a := 2) (by omega) h
  have e : (2 : Nat) ^ 64 = 18446744073709551616 := by decide
  omega
theorem wrap_pow {m : Nat} (h : m < 64) : IntKind.u64.wrap ((2 : Int) ^ m) = ((2 ^ m : Nat) : Int) := by
  have := pow_lt64 h
  rw [IntKind.wrap_u64, Int.natCast_pow, Int.emod_eq_of_lt]
  · rfl
  · exact Int.pow_nonneg (by omega)
  · have e : ((2 ^ m : Nat) : Int) < 18446744073709551616 := by omega
    rwa [Int.natCast_pow] at e
theorem retB {a b : Bool} (h : a = b) : Ending.returned (.bool a) = .returned (.bool b) := by rw [h]
theorem ret2n {k l : IntKind} {a b c d : Int} (h : a = c) (h' : b = d) : Ending.returned (.tuple #[.int k a, .int l b]) = .returned (.tuple #[.int k c, .int l d]) := by rw [h, h']
set_option maxRecDepth 100000 in
set_option maxHeartbeats 400000 in
theorem bit_any (n : Nat) (w : World) (hn : n < 128) :
    Calls Tryd.prog 40 #[.int .i64 n] w fun e w' => e = .returned (.tuple #[.int .i64 ((n / 64 : Nat) : Int), .int .u64 ((2 ^ (n % 64) : Nat) : Int)]) ∧ ∃ k, w' = w.drewN k := by
  have hm : n % 64 < 64 := by omega
  go_enter Tryd.func40, Tryd.ntmps40
  go_wp2
  go_quiet (fail)
  go_wp2
  go_ret2
  exact ⟨ret2n rfl (wrap_pow hm), nq, rfl⟩

set_option maxHeartbeats 400000 in
theorem fits_yes (n : Nat) (w : World) (hn : n < 128) :
    Calls Tryd.prog 39 #[.int .i64 n] w fun e w' => e = .returned (.bool true) ∧ w = w' := by
  go_enter Tryd.func39, Tryd.ntmps39
  go_wp2
  go_ret
  exact ⟨retB (by simp; omega), rfl⟩
set_option maxHeartbeats 400000 in
theorem fits_no (z : Int) (w : World) (hn : z < 0 ∨ 128 ≤ z) :
    Calls Tryd.prog 39 #[.int .i64 z] w fun e w' => e = .returned (.bool false) ∧ w = w' := by
  rcases hn with h | h
  · go_enter Tryd.func39, Tryd.ntmps39
    go_wp2
    go_ret
    exact ⟨rfl, rfl⟩
  · go_enter Tryd.func39, Tryd.ntmps39
    go_wp2
    go_ret
    exact ⟨retB (by simp; omega), rfl⟩

theorem bv64 (a : Nat) : BitVec.ofInt 64 (a : Int) = BitVec.ofNat 64 a := by simp
theorem or_lt64 {a b : Nat} (ha : a < 18446744073709551616) (hb : b < 18446744073709551616) : a ||| b < 18446744073709551616 := Nat.or_lt_two_pow (n := 64) ha hb
theorem wrap_nat64 {a : Nat} (ha : a < 18446744073709551616) : IntKind.u64.wrap (a : Int) = a := by rw [IntKind.wrap_u64]; omega
theorem bits_or64 (a b : Nat) (ha : a < 18446744073709551616) (hb : b < 18446744073709551616) : bits .or .u64 (a : Int) (b : Int) = ((a ||| b : Nat) : Int) := by
  unfold bits
  show IntKind.u64.wrap ((BitVec.ofInt 64 (a : Int) ||| BitVec.ofInt 64 (b : Int)).toNat : Int) = _
  rw [bv64, bv64, BitVec.toNat_or, BitVec.toNat_ofNat, BitVec.toNat_ofNat, Nat.mod_eq_of_lt ha, Nat.mod_eq_of_lt hb, wrap_nat64 (or_lt64 ha hb)]
theorem bits_and64 (a b : Nat) (ha : a < 18446744073709551616) (hb : b < 18446744073709551616) : bits .and .u64 (a : Int) (b : Int) = ((a &&& b : Nat) : Int) := by
  unfold bits
  show IntKind.u64.wrap ((BitVec.ofInt 64 (a : Int) &&& BitVec.ofInt 64 (b : Int)).toNat : Int) = _
  rw [bv64, bv64, BitVec.toNat_and, BitVec.toNat_ofNat, BitVec.toNat_ofNat, Nat.mod_eq_of_lt ha, Nat.mod_eq_of_lt hb, wrap_nat64 (Nat.lt_of_le_of_lt Nat.and_le_left ha)]
/-- the set with n -/
def withF (F : Nat → Bool) (n : Int) (j : Nat) : Bool := F j || ((j : Int) == n)
theorem setV_or_low (F : Nat → Bool) (n : Nat) (hn : n < 64) : Value.agg #[.int .u64 ((wordX F ||| 2 ^ n : Nat) : Int), .int .u64 (wordY F)] = setV (withF F n) := by
  refine setV_of (or_lt64 (wordX_lt F) (pow_lt64 hn)) (wordY_lt F) (fun j hj => ?_) (fun j hj => ?_)
  · rw [Nat.testBit_or, wordX_bit, Nat.testBit_two_pow]
    unfold withF
    simp only [hj, decide_true, Bool.true_and]
    congr 1
    rw [Bool.eq_iff_iff]; simp; omega
  · rw [wordY_bit]; unfold withF
    simp only [hj, decide_true, Bool.true_and]
    have : (((64 + j : Nat) : Int) == (n : Int)) = false := by rw [beq_eq_false_iff_ne]; omega
    rw [this, Bool.or_false]
theorem setV_or_high (F : Nat → Bool) (n : Nat) (h : 64 ≤ n) (hn : n < 128) : Value.agg #[.int .u64 (wordX F), .int .u64 ((wordY F ||| 2 ^ (n - 64) : Nat) : Int)] = setV (withF F n) := by
  refine setV_of (wordX_lt F) (or_lt64 (wordY_lt F) (pow_lt64 (by omega))) (fun j hj => ?_) (fun j hj => ?_)
  · rw [wordX_bit]; unfold withF
    simp only [hj, decide_true, Bool.true_and]
    have : (((j : Nat) : Int) == (n : Int)) = false := by rw [beq_eq_false_iff_ne]; omega
    rw [this, Bool.or_false]
  · rw [Nat.testBit_or, wordY_bit, Nat.testBit_two_pow]
    unfold withF
    simp only [hj, decide_true, Bool.true_and]
    congr 1
    rw [Bool.eq_iff_iff]; simp; omega
end Go.Proofs.YteebeiflipfbkaaDoor
