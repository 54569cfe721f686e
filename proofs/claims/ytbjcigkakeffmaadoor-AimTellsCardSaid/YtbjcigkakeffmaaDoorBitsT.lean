/- Contracts of the sets: how many. -/
import Derived.Test.YtbjcigkakeffmaaDoorRows
import Derived.Test.YtbjcigkakeffmaaDoorKitM
import Derived.Test.YtbjcigkakeffmaaDoorBitM
import Derived.Test.YtbjcigkakeffmaaDoorPopMath
import Derived.WalkKit
import Derived.IntWalk
import Derived.Lib.Hide
import Derived.WalkSpells
import Derived.WalkLawsBesides
import Derived.Laws.CopyOwn
import Derived.Deep.QuietTactic
import Derived.Deep.RegionHeld3
import Derived.BigQuiet
namespace Go.Proofs.YtbjcigkakeffmaaDoor
open Go.RowKit
set_option linter.unusedSimpArgs false
set_option linter.unusedVariables false
theorem mk_le {m n x y : Nat} : (x &&& m) + (y &&& m) ≤ 2 * m := by
  have h1 : x &&& m ≤ m := Nat.and_le_right
  have h2 : y &&& m ≤ m := Nat.and_le_right
  omega
theorem st_lt1 (x : Nat) : st 1 85 8 x < 18446744073709551616 := Nat.lt_of_le_of_lt (mk_le (m := mk 85 8) (n := 0)) (by decide +kernel)
theorem st_lt2 (x : Nat) : st 2 51 8 x < 18446744073709551616 := Nat.lt_of_le_of_lt (mk_le (m := mk 51 8) (n := 0)) (by decide +kernel)
theorem k1 (x : Nat) (hx : x < 18446744073709551616) : IntKind.u64.wrap (bits .and .u64 ((x : Int) / 2) 6148914691236517205 + bits .and .u64 (x : Int) 6148914691236517205) = ((st 1 85 8 x : Nat) : Int) := by
  have e0 : (6148914691236517205 : Int) = ((mk 85 8 : Nat) : Int) := by decide +kernel
  have e1 : (x : Int) / (2 : Int) = ((x >>> 1 : Nat) : Int) := by rw [Nat.shiftRight_eq_div_pow]; rfl
  have hm : mk 85 8 < 18446744073709551616 := by decide +kernel
  have h1 : x >>> 1 < 18446744073709551616 := by rw [Nat.shiftRight_eq_div_pow]; omega
  rw [e0, e1, bits_and64 _ _ h1 hm, bits_and64 _ _ hx hm, ← Int.natCast_add, show (x >>> 1 &&& mk 85 8) + (x &&& mk 85 8) = st 1 85 8 x from rfl, wrap_nat64 (st_lt1 x)]
theorem k2 (x : Nat) (hx : x < 18446744073709551616) : IntKind.u64.wrap (bits .and .u64 ((x : Int) / 4) 3689348814741910323 + bits .and .u64 (x : Int) 3689348814741910323) = ((st 2 51 8 x : Nat) : Int) := by
  have e0 : (3689348814741910323 : Int) = ((mk 51 8 : Nat) : Int) := by decide +kernel
  have e1 : (x : Int) / (4 : Int) = ((x >>> 2 : Nat) : Int) := by rw [Nat.shiftRight_eq_div_pow]; rfl
  have hm : mk 51 8 < 18446744073709551616 := by decide +kernel
  have h1 : x >>> 2 < 18446744073709551616 := by rw [Nat.shiftRight_eq_div_pow]; omega
  rw [e0, e1, bits_and64 _ _ h1 hm, bits_and64 _ _ hx hm, ← Int.natCast_add, show (x >>> 2 &&& mk 51 8) + (x &&& mk 51 8) = st 2 51 8 x from rfl, wrap_nat64 (st_lt2 x)]
theorem k3 (x : Nat) (hx : x + x / 16 < 18446744073709551616) : bits .and .u64 (IntKind.u64.wrap ((x : Int) / 16 + (x : Int))) 1085102592571150095 = ((((x >>> 4) + x) &&& mk 15 8 : Nat) : Int) := by
  have e0 : (1085102592571150095 : Int) = ((mk 15 8 : Nat) : Int) := by decide +kernel
  have e1 : (x : Int) / (16 : Int) = ((x >>> 4 : Nat) : Int) := by rw [Nat.shiftRight_eq_div_pow]; rfl
  have hm : mk 15 8 < 18446744073709551616 := by decide +kernel
  have h1 : x >>> 4 + x < 18446744073709551616 := by rw [Nat.shiftRight_eq_div_pow]; omega
  rw [e0, e1, ← Int.natCast_add, wrap_nat64 h1, bits_and64 _ _ h1 hm]
theorem bits_andi (a b : Nat) (ha : a < 9223372036854775808) (hb : b < 9223372036854775808) : bits .and .i64 (a : Int) (b : Int) = ((a &&& b : Nat) : Int) := by
  have h : a &&& b < 9223372036854775808 := Nat.and_lt_two_pow (n := 63) _ hb
  show IntKind.i64.wrap ((BitVec.ofInt 64 (a : Int) &&& BitVec.ofInt 64 (b : Int)).toNat : Int) = _
  rw [bv64, bv64, BitVec.toNat_and, BitVec.toNat_ofNat, BitVec.toNat_ofNat, Nat.mod_eq_of_lt (by omega), Nat.mod_eq_of_lt (by omega), IntKind.wrap_i64]
  omega
theorem st2_room (x : Nat) : st 2 51 8 x + st 2 51 8 x / 16 < 18446744073709551616 := by
  have h : st 2 51 8 x ≤ 2 * mk 51 8 := mk_le (n := 0)
  have : 2 * mk 51 8 = 7378697629483820646 := by decide +kernel
  omega
theorem ret1n {k : IntKind} {a c : Int} (h : a = c) : Ending.returned (.int k a) = .returned (.int k c) := by rw [h]
set_option maxRecDepth 100000 in
set_option maxHeartbeats 400000 in
theorem ones_any (x : Nat) (hx : x < 18446744073709551616) (w : World) : Calls Tryd.prog 48 #[.int .u64 x] w fun e w' => e = .returned (.int .i64 (cn (fun j => x.testBit j) 64)) ∧ w = w' := by
  go_enter Tryd.func48, Tryd.ntmps48
  go_wp2
  go_ret
  refine ⟨ret1n ?_, rfl⟩
  obtain ⟨P, R⟩ := pop_alg x hx
  have e3 : s3 8 x = ((s2 8 x >>> 4) + s2 8 x) &&& mk 15 8 := rfl
  have e2 : s2 8 x = st 2 51 8 (st 1 85 8 x) := rfl
  simp only [k1 x hx, k2 _ (st_lt1 x), k3 _ (st2_room _)]
  rw [← e2, ← e3]
  rw [← P]
  generalize s3 8 x = y at *
  simp only [fold3] at P R ⊢
  have w1 : IntKind.u64.wrap ((y : Int) + (y : Int) / 256) = ((y + y / 256 : Nat) : Int) := by rw [IntKind.wrap_u64]; omega
  rw [w1]
  generalize y + y / 256 = a at *
  have w2 : IntKind.u64.wrap ((a : Int) + (a : Int) / 65536) = ((a + a / 65536 : Nat) : Int) := by rw [IntKind.wrap_u64]; omega
  rw [w2]
  generalize a + a / 65536 = b at *
  have w3 : IntKind.u64.wrap ((b : Int) + (b : Int) / 4294967296) = ((b + b / 4294967296 : Nat) : Int) := by rw [IntKind.wrap_u64]; omega
  rw [w3]
  generalize b + b / 4294967296 = c at *
  rw [show wrap64 (c : Int) = (c : Int) by unfold wrap64; omega, show (127 : Int) = ((127 : Nat) : Int) from rfl, bits_andi c 127 (by omega) (by omega), show 127 = 2 ^ 7 - 1 from rfl, Nat.and_two_pow_sub_one_eq_mod]
/-- how many a set has -/
theorem itL_cn (F : Nat → Bool) : ∀ k, (itL F k).length = cn F k
  | 0 => rfl
  | k + 1 => by
    show (if F k then itL F k ++ [(k : Int)] else itL F k).length = cn F k + (F k).toNat
    rw [← itL_cn F k]
    cases F k <;> simp
theorem cn_words (F : Nat → Bool) : cn (fun j => (wordX F).testBit j) 64 + cn (fun j => (wordY F).testBit j) 64 = (itL F 128).length := by
  rw [itL_cn, show (128 : Nat) = 64 + 64 from rfl, cn_add F 64 64]
  congr 1
  · exact cn_congr 64 fun j hj => by rw [wordX_bit]; simp [hj]
  · exact cn_congr 64 fun j hj => by rw [wordY_bit]; simp [hj]
set_option maxRecDepth 100000 in
set_option maxHeartbeats 1000000 in
theorem count_any (F : Nat → Bool) (w : World) : Calls Tryd.prog 29 #[setV F] w fun e w' => e = .returned (.int .i64 (itL F 128).length) ∧ Below w.heap.size w w' := by
  have EQ := cn_words F
  have l1 := cn_le (fun j => (wordX F).testBit j) 64
  have l2 := cn_le (fun j => (wordY F).testBit j) 64
  have OX := fun w => ones_any (wordX F) (wordX_lt F) w
  have OY := fun w => ones_any (wordY F) (wordY_lt F) w
  unfold setV
  rw [← EQ]
  obtain ⟨a, ha⟩ : ∃ a, cn (fun j => (wordX F).testBit j) 64 = a := ⟨_, rfl⟩
  obtain ⟨b, hb⟩ : ∃ b, cn (fun j => (wordY F).testBit j) 64 = b := ⟨_, rfl⟩
  rw [ha] at OX l1 ⊢
  rw [hb] at OY l2 ⊢
  clear EQ ha hb
  obtain ⟨x, hX⟩ : ∃ x, wordX F = x := ⟨_, rfl⟩
  obtain ⟨y, hY⟩ : ∃ y, wordY F = y := ⟨_, rfl⟩
  rw [hX] at OX ⊢
  rw [hY] at OY ⊢
  have OXh := Lib.hid OX
  have OYh := Lib.hid OY
  clear hX hY OX OY
  go_enter Tryd.func29, Tryd.ntmps29
  go_wp2_with fail
  go_region_held3 (fun W => W.cell? ⟨w.heap.size, 0, none⟩ = some (.int .u64 x) ∧ W.cell? ⟨w.heap.size, 1, none⟩ = some (.int .u64 y))
    (go_keep)
    (first
      | (go_at_call_of 48 (Value.int IntKind.u64 (x : Int)); refine (OXh.out _).mono ?_; rintro r w' ⟨rfl, rfl⟩)
      | (go_at_call_of 48 (Value.int IntKind.u64 (y : Int)); refine (OYh.out _).mono ?_; rintro r w' ⟨rfl, rfl⟩))
  all_goals go_wp2_with fail
  all_goals go_ret
  all_goals exact ⟨ret1n (by rw [IntKind.wrap_i64]; omega), ((Below.refl w.heap.size w).alloc (Nat.le_refl _) _).drew⟩
end Go.Proofs.YtbjcigkakeffmaaDoor
