/- Joined kit texts: BitsMath BitsA2 BitsD BitsE BitsF BitsJ BitsK BitsP BitsS BitsG BitsH BitsO BitsQ. -/
import Derived.WalkKit
import Derived.Test.YtbjcigkakeffmaaDoorRows
import Derived.Lib.Hide
import Derived.Laws.CopyOwn
import Derived.Deep.WholeRow
import Derived.WalkSpells
import Derived.WalkLawsBesides
import Derived.Deep.QuietTactic
import Derived.BigQuiet
import Derived.Test.YtbjcigkakeffmaaDoorKitM
import Derived.IntWalk
import Derived.Deep.LoopGhost
import Derived.BigRegion
import Derived.Test.YtbjcigkakeffmaaDoorShelf
import Derived.Deep.RegionHeld3
import Derived.Laws.MakeOwn
import Derived.Laws.OwnMore
import Derived.OwnWalk
namespace Go.Proofs.YtbjcigkakeffmaaDoor
open Go.RowKit
set_option linter.unusedVariables false
/-- is n in the set of the words x and y? -/
def mem (x y n : Nat) : Bool := if n < 64 then x / 2 ^ n % 2 == 1 else y / 2 ^ (n - 64) % 2 == 1
/-- a row of 128, of which the first k are told -/
def rowC (f : Nat → Bool) (k : Nat) : Array Value := ((List.range 128).map fun j => Value.bool (decide (j < k) && f j)).toArray
theorem rowC_size (f : Nat → Bool) (k : Nat) : (rowC f k).size = 128 := by simp [rowC]
theorem rowC_get (f : Nat → Bool) (k j : Nat) (h : j < 128) : (rowC f k)[j]? = some (.bool (decide (j < k) && f j)) := by
  simp [rowC, h]
theorem rowC_here (f : Nat → Bool) (k : Nat) (h : k < 128) : (rowC f k)[k]? = some (.bool false) := by
  rw [rowC_get f k k h]; simp
theorem rowC_set (f : Nat → Bool) (k : Nat) (b : Bool) (hk : k < 128) (hb : b = f k) : (rowC f k).setIfInBounds k (.bool b) = rowC f (k + 1) := by
  subst hb
  apply Array.ext
  · simp [rowC]
  · intro i h1 h2
    have hi : i < 128 := by simpa [rowC] using h2
    rw [Array.getElem_setIfInBounds (by simpa [rowC] using hi)]
    split
    · rename_i e; subst e; simp [rowC]
    · rename_i e
      simp only [rowC, List.getElem_toArray, List.getElem_map, List.getElem_range]
      congr 2
      rw [decide_eq_decide]; omega
/-- the first word behind k rounds, the second one -/
def wX (x k : Nat) : Nat := x / 2 ^ min k 64
def wY (y k : Nat) : Nat := y / 2 ^ (k - 64)
theorem wX_zero (x : Nat) : wX x 0 = x := by simp [wX]
theorem wY_zero (y : Nat) : wY y 0 = y := by simp [wY]
theorem wX_low (x k : Nat) (h : k < 64) : wX x (k + 1) = wX x k / 2 := by
  unfold wX; rw [show min (k + 1) 64 = min k 64 + 1 by omega, Nat.pow_succ, Nat.div_div_eq_div_mul]
theorem wY_low (y k : Nat) (h : k < 64) : wY y (k + 1) = wY y k := by
  unfold wY; rw [show k + 1 - 64 = k - 64 by omega]
theorem wX_high (x k : Nat) (h : ¬ k < 64) : wX x (k + 1) = wX x k := by
  unfold wX; rw [show min (k + 1) 64 = min k 64 by omega]
theorem wY_high (y k : Nat) (h : ¬ k < 64) : wY y (k + 1) = wY y k / 2 := by
  unfold wY; rw [show k + 1 - 64 = k - 64 + 1 by omega, Nat.pow_succ, Nat.div_div_eq_div_mul]
theorem wX_lt {x : Nat} (k : Nat) (h : x < 18446744073709551616) : wX x k < 18446744073709551616 := Nat.lt_of_le_of_lt (Nat.div_le_self _ _) h
theorem wY_lt {y : Nat} (k : Nat) (h : y < 18446744073709551616) : wY y k < 18446744073709551616 := Nat.lt_of_le_of_lt (Nat.div_le_self _ _) h
theorem mem_low (x y k : Nat) (h : k < 64) : ((wX x k : Int) % 2 == 1) = mem x y k := by
  unfold mem wX; rw [if_pos h, show min k 64 = k by omega]
  generalize x / 2 ^ k = q
  rw [Bool.eq_iff_iff]; simp; omega
theorem mem_high (x y k : Nat) (h : ¬ k < 64) : ((wY y k : Int) % 2 == 1) = mem x y k := by
  unfold mem wY; rw [if_neg h]
  generalize y / 2 ^ (k - 64) = q
  rw [Bool.eq_iff_iff]; simp; omega
/-- a word out of a row, from its top down: t steps -/
def dig (f : Nat → Bool) (top : Nat) : Nat → Nat
  | 0 => 0
  | t + 1 => 2 * dig f top t + (f (top - t)).toNat
theorem dig_lt (f : Nat → Bool) (top t : Nat) : dig f top t < 2 ^ t := by
  induction t with
  | zero => simp [dig]
  | succ t ih => simp only [dig, Nat.pow_succ]; have := Bool.toNat_le (f (top - t)); omega
theorem dig_lt63 (f : Nat → Bool) (top : Nat) {t : Nat} (h : t < 64) : dig f top t < 9223372036854775808 := by
  have := dig_lt f top t
  have h2 : 2 ^ t ≤ 2 ^ 63 := Nat.pow_le_pow_right (by omega) (by omega)
  have : (2 : Nat) ^ 63 = 9223372036854775808 := by decide
  omega
def mX (f : Nat → Bool) (z : Int) : Nat := dig f 63 (63 - z).toNat
def mY (f : Nat → Bool) (z : Int) : Nat := dig f 127 (min 64 (127 - z).toNat)
theorem mX_top (f : Nat → Bool) : mX f 127 = 0 := rfl
theorem mY_top (f : Nat → Bool) : mY f 127 = 0 := rfl
theorem mX_high (f : Nat → Bool) (n : Nat) (h : ¬ n < 64) : mX f ((n : Int) - 1) = mX f n := by
  unfold mX; rw [show (63 - ((n : Int) - 1)).toNat = 0 by omega, show (63 - (n : Int)).toNat = 0 by omega]
theorem mY_high (f : Nat → Bool) (n : Nat) (h : ¬ n < 64) (hn : n < 128) : mY f ((n : Int) - 1) = 2 * mY f n + (f n).toNat := by
  unfold mY; rw [show min 64 (127 - ((n : Int) - 1)).toNat = (127 - n) + 1 by omega, show min 64 (127 - (n : Int)).toNat = 127 - n by omega]
  show 2 * dig f 127 (127 - n) + (f (127 - (127 - n))).toNat = _
  rw [show 127 - (127 - n) = n by omega]
theorem mX_low (f : Nat → Bool) (n : Nat) (h : n < 64) : mX f ((n : Int) - 1) = 2 * mX f n + (f n).toNat := by
  unfold mX; rw [show (63 - ((n : Int) - 1)).toNat = (63 - n) + 1 by omega, show (63 - (n : Int)).toNat = 63 - n by omega]
  show 2 * dig f 63 (63 - n) + (f (63 - (63 - n))).toNat = _
  rw [show 63 - (63 - n) = n by omega]
theorem mY_low (f : Nat → Bool) (n : Nat) (h : n < 64) : mY f ((n : Int) - 1) = mY f n := by
  unfold mY; rw [show min 64 (127 - ((n : Int) - 1)).toNat = 64 by omega]
  by_cases e : n = 63
  · subst e; rfl
  · rw [show min 64 (127 - (n : Int)).toNat = 64 by omega]
theorem mX_bd (f : Nat → Bool) (n : Nat) : mX f n < 9223372036854775808 := dig_lt63 f 63 (by omega)
theorem mY_bd (f : Nat → Bool) (n : Nat) (h : ¬ n < 64) : mY f n < 9223372036854775808 := dig_lt63 f 127 (by omega)
theorem mX_lt (f : Nat → Bool) (z : Int) (h : -1 ≤ z) : mX f z < 18446744073709551616 := by
  have h1 := dig_lt f 63 (63 - z).toNat
  have h2 : 2 ^ (63 - z).toNat ≤ 2 ^ 64 := Nat.pow_le_pow_right (by omega) (by omega)
  have : (2 : Nat) ^ 64 = 18446744073709551616 := by decide
  unfold mX; omega
theorem mY_lt (f : Nat → Bool) (z : Int) : mY f z < 18446744073709551616 := by
  have h1 := dig_lt f 127 (min 64 (127 - z).toNat)
  have h2 : 2 ^ (min 64 (127 - z).toNat) ≤ 2 ^ 64 := Nat.pow_le_pow_right (by omega) (by omega)
  have : (2 : Nat) ^ 64 = 18446744073709551616 := by decide
  unfold mY; omega
theorem dig_bit (f : Nat → Bool) (top : Nat) : ∀ (t j : Nat), t ≤ top + 1 → (dig f top t).testBit j = (decide (j < t) && f (top + 1 - t + j))
  | 0, j, _ => by simp [dig]
  | t + 1, 0, h => by
    simp only [dig, Nat.testBit_zero]
    rw [show top + 1 - (t + 1) + 0 = top - t by omega]
    cases f (top - t) <;> simp
  | t + 1, j + 1, h => by
    rw [Nat.testBit_succ]
    have e : dig f top (t + 1) / 2 = dig f top t := by
      simp only [dig]; have := Bool.toNat_le (f (top - t)); cases f (top - t) <;> simp <;> omega
    rw [e, dig_bit f top t j (by omega), show top + 1 - (t + 1) + (j + 1) = top + 1 - t + j by omega]
    congr 1
    rw [decide_eq_decide]; omega
/-- the words of a set -/
def wordX (F : Nat → Bool) : Nat := mX F (-1)
def wordY (F : Nat → Bool) : Nat := mY F (-1)
theorem wordX_lt (F : Nat → Bool) : wordX F < 18446744073709551616 := mX_lt F (-1) (by omega)
theorem wordY_lt (F : Nat → Bool) : wordY F < 18446744073709551616 := mY_lt F (-1)
theorem wordX_bit (F : Nat → Bool) (j : Nat) : (wordX F).testBit j = (decide (j < 64) && F j) := by
  have := dig_bit F 63 64 j (by omega)
  rw [show 63 + 1 - 64 + j = j by omega] at this
  exact this
theorem wordY_bit (F : Nat → Bool) (j : Nat) : (wordY F).testBit j = (decide (j < 64) && F (64 + j)) := by
  have := dig_bit F 127 64 j (by omega)
  rw [show 127 + 1 - 64 + j = 64 + j by omega] at this
  exact this
theorem lt64_bit {x : Nat} (h : x < 18446744073709551616) (j : Nat) (hj : ¬ j < 64) : x.testBit j = false := by
  apply Nat.testBit_lt_two_pow
  have e : (2 : Nat) ^ 64 = 18446744073709551616 := by decide
  have := Nat.pow_le_pow_right (n := 2) (by omega) (show 64 ≤ j by omega)
  omega
theorem wordX_eq {F : Nat → Bool} {x : Nat} (h : x < 18446744073709551616) (hb : ∀ j, j < 64 → x.testBit j = F j) : wordX F = x := by
  apply Nat.eq_of_testBit_eq
  intro j
  rw [wordX_bit]
  by_cases hj : j < 64
  · simp [hj, hb j hj]
  · simp [hj, lt64_bit h j hj]
theorem wordY_eq {F : Nat → Bool} {y : Nat} (h : y < 18446744073709551616) (hb : ∀ j, j < 64 → y.testBit j = F (64 + j)) : wordY F = y := by
  apply Nat.eq_of_testBit_eq
  intro j
  rw [wordY_bit]
  by_cases hj : j < 64
  · simp [hj, hb j hj]
  · simp [hj, lt64_bit h j hj]
theorem word_mem (x y : Nat) (hx : x < 18446744073709551616) (hy : y < 18446744073709551616) : wordX (mem x y) = x ∧ wordY (mem x y) = y := by
  refine ⟨wordX_eq hx fun j hj => ?_, wordY_eq hy fun j hj => ?_⟩
  · rw [Nat.testBit_eq_decide_div_mod_eq]; unfold mem; rw [if_pos hj, Bool.eq_iff_iff]; simp
  · rw [Nat.testBit_eq_decide_div_mod_eq]; unfold mem; rw [if_neg (by omega), show 64 + j - 64 = j by omega, Bool.eq_iff_iff]; simp
theorem mem_word (F : Nat → Bool) (n : Nat) (h : n < 128) : mem (wordX F) (wordY F) n = F n := by
  unfold mem
  by_cases h1 : n < 64
  · have := wordX_bit F n
    rw [Nat.testBit_eq_decide_div_mod_eq] at this
    rw [if_pos h1]; simp only [h1, decide_true, Bool.true_and] at this
    rw [← this, Bool.eq_iff_iff]; simp
  · have := wordY_bit F (n - 64)
    rw [Nat.testBit_eq_decide_div_mod_eq] at this
    rw [if_neg h1]; simp only [show n - 64 < 64 by omega, decide_true, Bool.true_and, show 64 + (n - 64) = n by omega] at this
    rw [← this, Bool.eq_iff_iff]; simp
/-- two sets with the same numbers -/
theorem word_congr {F G : Nat → Bool} (h : ∀ n, n < 128 → F n = G n) : wordX F = wordX G ∧ wordY F = wordY G :=
  ⟨wordX_eq (wordX_lt G) fun j hj => by rw [wordX_bit, h j (by omega)]; simp [hj],
   wordY_eq (wordY_lt G) fun j hj => by rw [wordY_bit, h (64 + j) (by omega)]; simp [hj]⟩
/-- a set as the program keeps it -/
def setV (F : Nat → Bool) : Value := .agg #[.int .u64 (wordX F), .int .u64 (wordY F)]
theorem setV_congr {F G : Nat → Bool} (h : ∀ n, n < 128 → F n = G n) : setV F = setV G := by
  unfold setV; rw [(word_congr h).1, (word_congr h).2]
theorem setV_mem {x y : Nat} (hx : x < 18446744073709551616) (hy : y < 18446744073709551616) : Value.agg #[.int .u64 x, .int .u64 y] = setV (mem x y) := by
  unfold setV; rw [(word_mem x y hx hy).1, (word_mem x y hx hy).2]
theorem setV_of {F : Nat → Bool} {x y : Nat} (hx : x < 18446744073709551616) (hy : y < 18446744073709551616) (h1 : ∀ j, j < 64 → x.testBit j = F j) (h2 : ∀ j, j < 64 → y.testBit j = F (64 + j)) :
    Value.agg #[.int .u64 x, .int .u64 y] = setV F := by
  unfold setV; rw [wordX_eq hx h1, wordY_eq hy h2]
theorem rowC_congr {F G : Nat → Bool} (h : ∀ n, n < 128 → F n = G n) : rowC F 128 = rowC G 128 := by
  unfold rowC
  congr 1
  apply List.map_congr_left
  intro n hn
  rw [h n (List.mem_range.1 hn)]
end Go.Proofs.YtbjcigkakeffmaaDoor


namespace Go.Proofs.YtbjcigkakeffmaaDoor
open Go.RowKit
set_option linter.unusedSimpArgs false
set_option linter.unusedVariables false
/-- a row of 128 as it is made -/
def zc : Array Value := Array.replicate 128 (.bool false)
theorem zc_run (w : World) : (zeroValue 76).run Tryd.prog w = .ok (.agg zc) w := by kernel_rfl
theorem zero128 (f : Nat → Bool) : zc = rowC f 0 := by
  unfold zc
  apply Array.ext
  · simp [rowC]
  · intro i h1 h2; simp [rowC]
def RowW (x y k : Nat) (w wr : World) : Prop := wr = ((w.alloc (.cells #[.int .u64 (wX x k), .int .u64 (wY y k)] 40)).alloc (.cells zc 76)).alloc (.cells (rowC (mem x y) k) 76)
theorem rowW_facts {x y k : Nat} {w wr : World} (h : RowW x y k w wr) : wr.heap[w.heap.size + 1 + 1]? = some (.cells (rowC (mem x y) k) 76) ∧
    wr.heap[w.heap.size + 1]? = some (.cells zc 76) ∧ Below w.heap.size w wr := by
  subst h
  refine ⟨?_, ?_, ((((Below.refl _ _).alloc (Nat.le_refl _) _).alloc (by simp) _).alloc (by simp; omega) _)⟩
  · have := heap_alloc_last ((w.alloc (.cells #[.int .u64 (wX x k), .int .u64 (wY y k)] 40)).alloc (.cells zc 76)) (.cells (rowC (mem x y) k) 76)
    simpa using this
  · rw [Below.heap_alloc _ _ _ (by simp)]
    have := heap_alloc_last (w.alloc (.cells #[.int .u64 (wX x k), .int .u64 (wY y k)] 40)) (.cells zc 76)
    simpa using this
theorem rowC_all (f : Nat → Bool) (k : Nat) : (rowC f k).all (·.oneCell') = true := by
  rw [Array.all_eq_true_iff_forall_mem]
  intro v hv
  simp only [rowC, List.mem_toArray, List.mem_map] at hv
  obtain ⟨j, _, rfl⟩ := hv
  rfl
theorem info59 : (Tryd.prog.info? 76).map (·.size) = some 128 := by kernel_rfl
theorem zsize : zc.size = 128 := by rw [zero128 fun _ => false, rowC_size]
theorem zc_cells : (Value.agg zc).cells = zc := rfl
set_option maxRecDepth 100000 in
set_option maxHeartbeats 400000 in
theorem row_any (x y : Nat) (w : World) (hx : x < 18446744073709551616) (hy : y < 18446744073709551616) :
    Calls Tryd.prog 42 #[.agg #[.int .u64 x, .int .u64 y]] w fun e w' => e = .returned (.agg (rowC (mem x y) 128)) ∧ Below w.heap.size w w' := by
  have HZ := zc_run
  have HC := zc_cells
  go_enter Tryd.func42, Tryd.ntmps42
  go_wp2
  go_loopw [4] (fun i wr => ∃ k : Nat, k ≤ 128 ∧ i = .int .i64 k ∧ RowW x y k w wr) (fun i _ => (128 - intOf i).toNat)
  case atStart => exact ⟨0, by omega, rfl, by unfold RowW; rw [wX_zero, wY_zero, ← zero128]⟩
  case round =>
    obtain ⟨k, hk, rfl, hw⟩ := hrel
    have X1 := wX_lt k hx
    have Y1 := wY_lt k hy
    by_cases hk' : k < 128
    · unfold RowW at hw
      subst hw
      have g := rowC_here (mem x y) k hk'
      by_cases h64 : k < 64
      · have e : k / 64 = 0 := by omega
        go_wp2
        go_roundw
        case rel =>
          refine ⟨k + 1, by omega, by go_num, ?_⟩
          unfold RowW
          rw [wX_low _ _ h64, wY_low _ _ h64, ← rowC_set _ _ _ hk' (mem_low x y k h64), Int.natCast_ediv]
          rfl
        case measure => simp [intOf]; omega
      · have e : k / 64 = 1 := by omega
        go_wp2
        go_roundw
        case rel =>
          refine ⟨k + 1, by omega, by go_num, ?_⟩
          unfold RowW
          rw [wX_high _ _ h64, wY_high _ _ h64, ← rowC_set _ _ _ hk' (mem_high x y k h64), Int.natCast_ediv]
          rfl
        case measure => simp [intOf]; omega
    · obtain rfl : k = 128 := by omega
      obtain ⟨h2, h1, hb⟩ := rowW_facts hw
      clear hw
      have H2 := Lib.hid h2
      have H1 := Lib.hid h1
      clear h1 h2
      go_wp2_with (first
        | (refine wpList_load_row rfl 76 (.tmp 3) rfl (w.heap.size + 1 + 1) rfl 76 (rowC (mem x y) 128) (0, 0) _ H2.out Tryd.underlying76 rfl (by rw [rowC_size]; exact info59) ?_)
        | (refine wpList_store_row rfl 76 (.tmp 2) (.tmp 25) rfl (w.heap.size + 1) (rowC (mem x y) 128) rfl rfl 76 zc H1.out (by rw [rowC_size]; exact info59) (by rw [rowC_size, zsize]) (rowC_all _ _) ?_))
      refine bodyPost_ret (results_cell_row rfl _ _ (w.heap.size + 1) 76 (rowC (mem x y) 128) (0, 0) _ rfl (setRow_heap _ _ _ _ _ _ H1.out) Tryd.underlying76 rfl (by rw [rowC_size]; exact info59)) rfl ⟨rfl, below_setRow hb (by omega) _⟩

def MakeW (f : Nat → Bool) (z : Int) (w wr : World) : Prop := wr = ((w.alloc (.cells (rowC f 128) 76)).alloc (.cells #[.int .u64 0, .int .u64 0] 40)).alloc (.cells #[.int .u64 (mX f z), .int .u64 (mY f z)] 40)
set_option maxRecDepth 100000 in
set_option maxHeartbeats 1000000 in
theorem make_any (f : Nat → Bool) (w : World) :
    Calls Tryd.prog 43 #[.agg (rowC f 128)] w fun e w' => e = .returned (.agg #[.int .u64 (mX f (-1)), .int .u64 (mY f (-1))]) ∧ Below w.heap.size w w' := by
  go_enter Tryd.func43, Tryd.ntmps43
  go_wp2
  go_loopw [4] (fun i wr => ∃ z : Int, -1 ≤ z ∧ z ≤ 127 ∧ i = .int .i64 z ∧ MakeW f z w wr) (fun i _ => (intOf i + 1).toNat)
  case atStart => exact ⟨127, by omega, by omega, rfl, rfl⟩
  case round =>
    obtain ⟨z, hz, hz', rfl, hw⟩ := hrel
    unfold MakeW at hw
    subst hw
    by_cases hk' : 0 ≤ z
    · obtain ⟨n, rfl⟩ := Int.eq_ofNat_of_zero_le hk'
      have hn : n < 128 := by omega
      have X1 := mX_bd f n
      by_cases h64 : n < 64
      · have e : n / 64 = 0 := by omega
        cases hb : f n
        · have g : (rowC f 128)[n]? = some (.bool false) := by rw [rowC_get f 128 n hn]; simp [hn, hb]
          have B := Lib.hid hb
          clear hb
          go_wp2
          go_roundw
          case rel =>
            refine ⟨(n : Int) - 1, by omega, by omega, rfl, ?_⟩
            unfold MakeW
            rw [mX_low f n h64, mY_low f n h64, B.out]
            simp only [Bool.toNat_false, Nat.add_zero, Int.natCast_add, Int.natCast_mul]
            rfl
          case measure => simp [intOf]
        · have g : (rowC f 128)[n]? = some (.bool true) := by rw [rowC_get f 128 n hn]; simp [hn, hb]
          have B := Lib.hid hb
          clear hb
          go_wp2
          go_roundw
          case rel =>
            refine ⟨(n : Int) - 1, by omega, by omega, rfl, ?_⟩
            unfold MakeW
            rw [mX_low f n h64, mY_low f n h64, B.out]
            simp only [Bool.toNat_true, Nat.add_zero, Int.natCast_add, Int.natCast_mul]
            rfl
          case measure => simp [intOf]
      · have e : n / 64 = 1 := by omega
        have Y1 := mY_bd f n h64
        cases hb : f n
        · have g : (rowC f 128)[n]? = some (.bool false) := by rw [rowC_get f 128 n hn]; simp [hn, hb]
          have B := Lib.hid hb
          clear hb
          go_wp2
          go_roundw
          case rel =>
            refine ⟨(n : Int) - 1, by omega, by omega, rfl, ?_⟩
            unfold MakeW
            rw [mX_high f n h64, mY_high f n h64 hn, B.out]
            simp only [Bool.toNat_false, Nat.add_zero, Int.natCast_add, Int.natCast_mul]
            rfl
          case measure => simp [intOf]
        · have g : (rowC f 128)[n]? = some (.bool true) := by rw [rowC_get f 128 n hn]; simp [hn, hb]
          have B := Lib.hid hb
          clear hb
          go_wp2
          go_roundw
          case rel =>
            refine ⟨(n : Int) - 1, by omega, by omega, rfl, ?_⟩
            unfold MakeW
            rw [mX_high f n h64, mY_high f n h64 hn, B.out]
            simp only [Bool.toNat_true, Nat.add_zero, Int.natCast_add, Int.natCast_mul]
            rfl
          case measure => simp [intOf]
    · obtain rfl : z = -1 := by omega
      go_wp2
      refine bodyPost_ret (v := .agg #[.int .u64 (mX f (-1)), .int .u64 (mY f (-1))]) ?_ rfl ⟨rfl, ?_⟩
      · simp [results, Tryd.results43, go_sem]
      · exact (((Below.refl _ _).alloc (Nat.le_refl _) _).alloc (by simp) _).alloc (by simp; omega) _

theorem row_set (F : Nat → Bool) (w : World) :
    Calls Tryd.prog 42 #[setV F] w fun e w' => e = .returned (.agg (rowC F 128)) ∧ Below w.heap.size w w' := by
  have := row_any (wordX F) (wordY F) w (wordX_lt F) (wordY_lt F)
  rwa [rowC_congr (mem_word F)] at this
theorem make_set (F : Nat → Bool) (w : World) :
    Calls Tryd.prog 43 #[.agg (rowC F 128)] w fun e w' => e = .returned (setV F) ∧ Below w.heap.size w w' := make_any F w
end Go.Proofs.YtbjcigkakeffmaaDoor


namespace Go.Proofs.YtbjcigkakeffmaaDoor
open Go.RowKit
set_option linter.unusedSimpArgs false
set_option linter.unusedVariables false

theorem pow_lt64 {m : Nat} (h : m < 64) : 2 ^ m < 18446744073709551616 := by
  have := Nat.pow_lt_pow_right (a := 2) (by omega) h
  have e : (2 : Nat) ^ 64 = 18446744073709551616 := by decide
  omega
theorem wrap_pow {m : Nat} (h : m < 64) : IntKind.u64.wrap ((2 : Int) ^ m) = ((2 ^ m : Nat) : Int) := by
  have := pow_lt64 h
  rw [IntKind.wrap_u64, Int.natCast_pow, Int.emod_eq_of_lt]
  · rfl
  · exact Int.pow_nonneg (by omega)
  · have e : ((2 ^ m : Nat) : Int) < 18446744073709551616 := by omega
    rwa [Int.natCast_pow] at e
theorem retB {a b : Bool} (h : a = b) : Ending.returned (.bool a) = .returned (.bool b) := by rw [h]
theorem ret2n {k l : IntKind} {a b c d : Int} (h : a = c) (h' : b = d) : Ending.returned (.tuple #[.int k a, .int l b]) = .returned (.tuple #[.int k c, .int l d]) := by rw [h, h']
set_option maxRecDepth 100000 in
set_option maxHeartbeats 400000 in
theorem bit_any (n : Nat) (w : World) (hn : n < 128) :
    Calls Tryd.prog 54 #[.int .i64 n] w fun e w' => e = .returned (.tuple #[.int .i64 ((n / 64 : Nat) : Int), .int .u64 ((2 ^ (n % 64) : Nat) : Int)]) ∧ ∃ k, w' = w.drewN k := by
  have hm : n % 64 < 64 := by omega
  go_enter Tryd.func54, Tryd.ntmps54
  go_wp2
  go_quiet (fail)
  go_wp2
  go_ret2
  exact ⟨ret2n rfl (wrap_pow hm), nq, rfl⟩

set_option maxHeartbeats 400000 in
theorem fits_yes (n : Nat) (w : World) (hn : n < 128) :
    Calls Tryd.prog 53 #[.int .i64 n] w fun e w' => e = .returned (.bool true) ∧ w = w' := by
  go_enter Tryd.func53, Tryd.ntmps53
  go_wp2
  go_ret
  exact ⟨retB (by simp; omega), rfl⟩
set_option maxHeartbeats 400000 in
theorem fits_no (z : Int) (w : World) (hn : z < 0 ∨ 128 ≤ z) :
    Calls Tryd.prog 53 #[.int .i64 z] w fun e w' => e = .returned (.bool false) ∧ w = w' := by
  rcases hn with h | h
  · go_enter Tryd.func53, Tryd.ntmps53
    go_wp2
    go_ret
    exact ⟨rfl, rfl⟩
  · go_enter Tryd.func53, Tryd.ntmps53
    go_wp2
    go_ret
    exact ⟨retB (by simp; omega), rfl⟩

theorem bv64 (a : Nat) : BitVec.ofInt 64 (a : Int) = BitVec.ofNat 64 a := by simp
theorem or_lt64 {a b : Nat} (ha : a < 18446744073709551616) (hb : b < 18446744073709551616) : a ||| b < 18446744073709551616 := Nat.or_lt_two_pow (n := 64) ha hb
theorem wrap_nat64 {a : Nat} (ha : a < 18446744073709551616) : IntKind.u64.wrap (a : Int) = a := by rw [IntKind.wrap_u64]; omega
theorem bits_or64 (a b : Nat) (ha : a < 18446744073709551616) (hb : b < 18446744073709551616) : bits .or .u64 (a : Int) (b : Int) = ((a ||| b : Nat) : Int) := by
  unfold bits
  show IntKind.u64.wrap ((BitVec.ofInt 64 (a : Int) ||| BitVec.ofInt 64 (b : Int)).toNat : Int) = _
  rw [bv64, bv64, BitVec.toNat_or, BitVec.toNat_ofNat, BitVec.toNat_ofNat, Nat.mod_eq_of_lt ha, Nat.mod_eq_of_lt hb, wrap_nat64 (or_lt64 ha hb)]
theorem bits_and64 (a b : Nat) (ha : a < 18446744073709551616) (hb : b < 18446744073709551616) : bits .and .u64 (a : Int) (b : Int) = ((a &&& b : Nat) : Int) := by
  unfold bits
  show IntKind.u64.wrap ((BitVec.ofInt 64 (a : Int) &&& BitVec.ofInt 64 (b : Int)).toNat : Int) = _
  rw [bv64, bv64, BitVec.toNat_and, BitVec.toNat_ofNat, BitVec.toNat_ofNat, Nat.mod_eq_of_lt ha, Nat.mod_eq_of_lt hb, wrap_nat64 (Nat.lt_of_le_of_lt Nat.and_le_left ha)]
/-- the set with n -/
def withF (F : Nat → Bool) (n : Int) (j : Nat) : Bool := F j || ((j : Int) == n)
theorem setV_or_low (F : Nat → Bool) (n : Nat) (hn : n < 64) : Value.agg #[.int .u64 ((wordX F ||| 2 ^ n : Nat) : Int), .int .u64 (wordY F)] = setV (withF F n) := by
  refine setV_of (or_lt64 (wordX_lt F) (pow_lt64 hn)) (wordY_lt F) (fun j hj => ?_) (fun j hj => ?_)
  · rw [Nat.testBit_or, wordX_bit, Nat.testBit_two_pow]
    unfold withF
    simp only [hj, decide_true, Bool.true_and]
    congr 1
    rw [Bool.eq_iff_iff]; simp; omega
  · rw [wordY_bit]; unfold withF
    simp only [hj, decide_true, Bool.true_and]
    have : (((64 + j : Nat) : Int) == (n : Int)) = false := by rw [beq_eq_false_iff_ne]; omega
    rw [this, Bool.or_false]
theorem setV_or_high (F : Nat → Bool) (n : Nat) (h : 64 ≤ n) (hn : n < 128) : Value.agg #[.int .u64 (wordX F), .int .u64 ((wordY F ||| 2 ^ (n - 64) : Nat) : Int)] = setV (withF F n) := by
  refine setV_of (wordX_lt F) (or_lt64 (wordY_lt F) (pow_lt64 (by omega))) (fun j hj => ?_) (fun j hj => ?_)
  · rw [wordX_bit]; unfold withF
    simp only [hj, decide_true, Bool.true_and]
    have : (((j : Nat) : Int) == (n : Int)) = false := by rw [beq_eq_false_iff_ne]; omega
    rw [this, Bool.or_false]
  · rw [Nat.testBit_or, wordY_bit, Nat.testBit_two_pow]
    unfold withF
    simp only [hj, decide_true, Bool.true_and]
    congr 1
    rw [Bool.eq_iff_iff]; simp; omega
end Go.Proofs.YtbjcigkakeffmaaDoor


namespace Go.Proofs.YtbjcigkakeffmaaDoor
open Go.RowKit
set_option linter.unusedSimpArgs false
set_option linter.unusedVariables false
theorem withF_out (F : Nat → Bool) {z : Int} (hz : z < 0 ∨ 128 ≤ z) : setV (withF F z) = setV F := setV_congr fun j hj => by
  unfold withF
  have : ((j : Int) == z) = false := by rw [beq_eq_false_iff_ne]; omega
  rw [this, Bool.or_false]
/-- the set of the first so many numbers of a row -/
def ofF (zs : List Int) : Nat → Nat → Bool
  | 0 => fun _ => false
  | k + 1 => withF (ofF zs k) (zat zs k)
theorem word_none : wordX (fun _ => false) = 0 ∧ wordY (fun _ => false) = 0 :=
  ⟨wordX_eq (by omega) fun j _ => by simp, wordY_eq (by omega) fun j _ => by simp⟩
structure OfW (w X : World) (x y : Nat) : Prop where
  r : Blk X w.heap.size 40 #[.int .u64 0, .int .u64 0]
  s : Blk X (w.heap.size + 1) 40 #[.int .u64 x, .int .u64 y]
  e : Below w.heap.size w X
end Go.Proofs.YtbjcigkakeffmaaDoor


namespace Go.Proofs.YtbjcigkakeffmaaDoor
open Go.RowKit
set_option linter.unusedSimpArgs false
set_option linter.unusedVariables false
/-- the set, greater by k -/
def shF (F : Nat → Bool) (k : Int) (j : Nat) : Bool := decide (0 ≤ (j : Int) - k) && decide ((j : Int) - k < 128) && F ((j : Int) - k).toNat
theorem two64 : (18446744073709551616 : Nat) = 2 ^ 64 := by decide
theorem shl_bit (x k j : Nat) : (x * 2 ^ k % 18446744073709551616).testBit j = (decide (j < 64) && (decide (k ≤ j) && x.testBit (j - k))) := by
  rw [two64, Nat.testBit_mod_two_pow, Nat.testBit_mul_two_pow]
theorem shr_bit (x k j : Nat) : (x / 2 ^ k).testBit j = x.testBit (k + j) := by
  rw [Nat.testBit_div_two_pow, Nat.add_comm]
theorem shl_lt (x k : Nat) : x * 2 ^ k % 18446744073709551616 < 18446744073709551616 := Nat.mod_lt _ (by omega)
theorem shr_lt {x : Nat} (k : Nat) (h : x < 18446744073709551616) : x / 2 ^ k < 18446744073709551616 := Nat.lt_of_le_of_lt (Nat.div_le_self _ _) h
theorem up_low (F : Nat → Bool) (k : Nat) (hk : k < 64) : Value.agg #[.int .u64 ((wordX F * 2 ^ k % 18446744073709551616 : Nat) : Int), .int .u64 ((wordY F * 2 ^ k % 18446744073709551616 ||| wordX F / 2 ^ (64 - k) : Nat) : Int)] = setV (shF F k) := by
  refine setV_of (shl_lt _ _) (or_lt64 (shl_lt _ _) (shr_lt _ (wordX_lt F))) (fun j hj => ?_) (fun j hj => ?_)
  · rw [shl_bit, wordX_bit]
    unfold shF
    by_cases h : k ≤ j
    · rw [show ((j : Int) - k).toNat = j - k by omega]
      simp [hj, h, show j - k < 64 by omega, show (0 : Int) ≤ (j : Int) - k by omega, show (j : Int) - k < 128 by omega]
    · simp [h, show ¬ (0 : Int) ≤ (j : Int) - k by omega]
  · rw [Nat.testBit_or, shl_bit, shr_bit, wordY_bit, wordX_bit]
    unfold shF
    rw [show ((((64 + j : Nat) : Int)) - k).toNat = 64 + j - k by omega]
    have h1 : (0 : Int) ≤ ((64 + j : Nat) : Int) - k := by omega
    have h2 : ((64 + j : Nat) : Int) - k < 128 := by omega
    by_cases h : k ≤ j
    · simp only [hj, h, h1, h2, decide_true, Bool.true_and, show j - k < 64 by omega, show ¬ (64 - k + j < 64) by omega, decide_false, Bool.false_and, Bool.or_false, show 64 + (j - k) = 64 + j - k by omega]
    · simp only [hj, h, h1, h2, decide_true, Bool.true_and, decide_false, Bool.false_and, Bool.and_false, Bool.false_or, show 64 + j - k < 64 by omega, show 64 - k + j = 64 + j - k by omega]
theorem up_high (F : Nat → Bool) (k : Nat) (hk : k ≤ 64) : Value.agg #[.int .u64 0, .int .u64 ((wordX F * 2 ^ k % 18446744073709551616 : Nat) : Int)] = setV (shF F ((64 + k : Nat) : Int)) := by
  refine setV_of (x := 0) (by omega) (shl_lt _ _) (fun j hj => ?_) (fun j hj => ?_)
  · unfold shF
    simp only [show ¬ (0 : Int) ≤ (j : Int) - ((64 + k : Nat) : Int) by omega, decide_false, Bool.false_and, Bool.and_false, Nat.zero_testBit]
  · rw [shl_bit, wordX_bit]
    unfold shF
    by_cases h : k ≤ j
    · rw [show (((64 + j : Nat) : Int) - ((64 + k : Nat) : Int)).toNat = j - k by omega]
      simp only [hj, h, show j - k < 64 by omega, show (0 : Int) ≤ ((64 + j : Nat) : Int) - ((64 + k : Nat) : Int) by omega, show ((64 + j : Nat) : Int) - ((64 + k : Nat) : Int) < 128 by omega, decide_true, Bool.true_and]
    · simp only [h, show ¬ (0 : Int) ≤ ((64 + j : Nat) : Int) - ((64 + k : Nat) : Int) by omega, decide_false, Bool.false_and, Bool.and_false]
theorem down_low (F : Nat → Bool) (k : Nat) (hk : k < 64) : Value.agg #[.int .u64 ((wordX F / 2 ^ k ||| wordY F * 2 ^ (64 - k) % 18446744073709551616 : Nat) : Int), .int .u64 ((wordY F / 2 ^ k : Nat) : Int)] = setV (shF F (-(k : Int))) := by
  refine setV_of (or_lt64 (shr_lt _ (wordX_lt F)) (shl_lt _ _)) (shr_lt _ (wordY_lt F)) (fun j hj => ?_) (fun j hj => ?_)
  · rw [Nat.testBit_or, shl_bit, shr_bit, wordY_bit, wordX_bit]
    unfold shF
    rw [show ((j : Int) - -(k : Int)).toNat = k + j by omega]
    have h1 : (0 : Int) ≤ (j : Int) - -(k : Int) := by omega
    have h2 : (j : Int) - -(k : Int) < 128 := by omega
    by_cases h : k + j < 64
    · simp only [hj, h, h1, h2, decide_true, Bool.true_and, show ¬ (64 - k ≤ j) by omega, decide_false, Bool.false_and, Bool.or_false]
    · simp only [hj, h, h1, h2, decide_true, Bool.true_and, decide_false, Bool.false_and, Bool.false_or, show 64 - k ≤ j by omega, show j - (64 - k) < 64 by omega, show 64 + (j - (64 - k)) = k + j by omega]
  · rw [shr_bit, wordY_bit]
    unfold shF
    have h1 : (0 : Int) ≤ ((64 + j : Nat) : Int) - -(k : Int) := by omega
    by_cases h : k + j < 64
    · rw [show (((64 + j : Nat) : Int) - -(k : Int)).toNat = 64 + (k + j) by omega]
      simp only [h, h1, show ((64 + j : Nat) : Int) - -(k : Int) < 128 by omega, decide_true, Bool.true_and]
    · simp only [h, show ¬ ((64 + j : Nat) : Int) - -(k : Int) < 128 by omega, decide_false, Bool.false_and, Bool.and_false]
theorem down_high (F : Nat → Bool) (k : Nat) (hk : k ≤ 64) : Value.agg #[.int .u64 ((wordY F / 2 ^ k : Nat) : Int), .int .u64 0] = setV (shF F (-((64 + k : Nat) : Int))) := by
  refine setV_of (y := 0) (shr_lt _ (wordY_lt F)) (by omega) (fun j hj => ?_) (fun j hj => ?_)
  · rw [shr_bit, wordY_bit]
    unfold shF
    have h1 : (0 : Int) ≤ (j : Int) - -((64 + k : Nat) : Int) := by omega
    by_cases h : k + j < 64
    · rw [show ((j : Int) - -((64 + k : Nat) : Int)).toNat = 64 + (k + j) by omega]
      simp only [h, h1, show (j : Int) - -((64 + k : Nat) : Int) < 128 by omega, decide_true, Bool.true_and]
    · simp only [h, show ¬ (j : Int) - -((64 + k : Nat) : Int) < 128 by omega, decide_false, Bool.false_and, Bool.and_false]
  · unfold shF
    simp only [show ¬ ((64 + j : Nat) : Int) - -((64 + k : Nat) : Int) < 128 by omega, decide_false, Bool.false_and, Bool.and_false, Nat.zero_testBit]
theorem wrap_mul (x k : Nat) : IntKind.u64.wrap ((x : Int) * 2 ^ k) = ((x * 2 ^ k % 18446744073709551616 : Nat) : Int) := by
  rw [IntKind.wrap_u64, Int.natCast_emod, Int.natCast_mul, Int.natCast_pow]; rfl
theorem div_pow (x k : Nat) : (x : Int) / 2 ^ k = ((x / 2 ^ k : Nat) : Int) := by
  rw [Int.natCast_ediv, Int.natCast_pow]; rfl
theorem shF_far (F : Nat → Bool) {k : Int} (h : k < -128 ∨ 128 < k) : setV (shF F k) = setV (shF F (if k < 0 then -128 else 128)) := setV_congr fun j hj => by
  unfold shF
  split
  · simp only [show ¬ (j : Int) - k < 128 by omega, show ¬ (j : Int) - -128 < 128 by omega, decide_false, Bool.false_and, Bool.and_false]
  · simp only [show ¬ (0 : Int) ≤ (j : Int) - k by omega, show ¬ (0 : Int) ≤ (j : Int) - 128 by omega, decide_false, Bool.false_and]
end Go.Proofs.YtbjcigkakeffmaaDoor


namespace Go.Proofs.YtbjcigkakeffmaaDoor
open Go.RowKit
set_option linter.unusedSimpArgs false
set_option linter.unusedVariables false
set_option maxRecDepth 100000 in
set_option maxHeartbeats 1000000 in
theorem lowest_4 (w : World) : Calls Tryd.prog 60 #[.int .i64 4] w fun e w' => e = .returned (.agg #[.int .u64 15, .int .u64 0]) ∧ Below w.heap.size w w' := by
  go_enter Tryd.func60, Tryd.ntmps60
  go_wp2_with fail
  go_region
  go_wp2_with fail
  refine bodyPost_ret (v := .agg #[.int .u64 15, .int .u64 0]) (by simp [results, Tryd.results60, go_sem] <;> decide +kernel) rfl ⟨rfl, ?_⟩
  exact ((Below.refl w.heap.size w).alloc (Nat.le_refl _) _).drew
set_option maxRecDepth 100000 in
set_option maxHeartbeats 1000000 in
theorem lowest_70 (w : World) : Calls Tryd.prog 60 #[.int .i64 70] w fun e w' => e = .returned (.agg #[.int .u64 18446744073709551615, .int .u64 63]) ∧ Below w.heap.size w w' := by
  go_enter Tryd.func60, Tryd.ntmps60
  go_wp2_with fail
  go_region
  go_wp2_with fail
  refine bodyPost_ret (v := .agg #[.int .u64 18446744073709551615, .int .u64 63]) (by simp [results, Tryd.results60, go_sem] <;> decide +kernel) rfl ⟨rfl, ?_⟩
  exact ((Below.refl w.heap.size w).alloc (Nat.le_refl _) _).drew
set_option maxRecDepth 100000 in
set_option maxHeartbeats 1000000 in
theorem ones_8 (w : World) : Calls Tryd.prog 48 #[.int .u64 8] w fun e w' => e = .returned (.int .i64 1) ∧ w = w' := by
  go_enter Tryd.func48, Tryd.ntmps48
  go_wp2_with fail
  go_ret
  exact ⟨by kernel_rfl, rfl⟩
set_option maxRecDepth 100000 in
set_option maxHeartbeats 1000000 in
theorem ones_64 (w : World) : Calls Tryd.prog 48 #[.int .u64 64] w fun e w' => e = .returned (.int .i64 1) ∧ w = w' := by
  go_enter Tryd.func48, Tryd.ntmps48
  go_wp2_with fail
  go_ret
  exact ⟨by kernel_rfl, rfl⟩
set_option maxRecDepth 100000 in
set_option maxHeartbeats 1000000 in
theorem and_any (x y a b : Int) (w : World) : Calls Tryd.prog 61 #[.agg #[.int .u64 x, .int .u64 y], .agg #[.int .u64 a, .int .u64 b]] w fun e w' => e = .returned (.agg #[.int .u64 (bits .and .u64 x a), .int .u64 (bits .and .u64 y b)]) ∧ Below w.heap.size w w' := by
  go_enter Tryd.func61, Tryd.ntmps61
  go_wp2_with fail
  refine bodyPost_ret (v := .agg #[.int .u64 (bits .and .u64 x a), .int .u64 (bits .and .u64 y b)]) (by simp [results, Tryd.results61, go_sem]) rfl ⟨rfl, ?_⟩
  exact ((((Below.refl w.heap.size w).alloc (Nat.le_refl _) _).alloc (by simp) _).alloc (by simp; omega) _)
set_option maxRecDepth 100000 in
set_option maxHeartbeats 1000000 in
theorem sub_any (x y a b : Int) (w : World) : Calls Tryd.prog 59 #[.agg #[.int .u64 x, .int .u64 y], .agg #[.int .u64 a, .int .u64 b]] w fun e w' => e = .returned (.agg #[.int .u64 (bits .andNot .u64 x a), .int .u64 (bits .andNot .u64 y b)]) ∧ Below w.heap.size w w' := by
  go_enter Tryd.func59, Tryd.ntmps59
  go_wp2_with fail
  refine bodyPost_ret (v := .agg #[.int .u64 (bits .andNot .u64 x a), .int .u64 (bits .andNot .u64 y b)]) (by simp [results, Tryd.results59, go_sem]) rfl ⟨rfl, ?_⟩
  exact ((((Below.refl w.heap.size w).alloc (Nat.le_refl _) _).alloc (by simp) _).alloc (by simp; omega) _)
end Go.Proofs.YtbjcigkakeffmaaDoor


namespace Go.Proofs.YtbjcigkakeffmaaDoor
open Go.RowKit
set_option linter.unusedSimpArgs false
set_option linter.unusedVariables false
theorem bkeep {w w' : World} {g i : Nat} {v : Value} (hb : Below w.heap.size w w') (h : w.cell? ⟨g, i, none⟩ = some v) : w'.cell? ⟨g, i, none⟩ = some v := (hb.cell (lt_of_cell h)).trans h
set_option maxRecDepth 100000 in
set_option maxHeartbeats 1000000 in
theorem from_ex (w : World) : Calls Tryd.prog 50 #[.agg #[.int .u64 8, .int .u64 64], .int .i64 4] w fun e w' => e = .returned (.agg #[.int .u64 0, .int .u64 64]) ∧ Below w.heap.size w w' := by
  have E0 := Lib.hid (show bits .andNot .u64 8 15 = 0 by decide +kernel)
  have E1 := Lib.hid (show bits .andNot .u64 64 0 = 64 by decide +kernel)
  have SU := fun w => sub_any 8 64 15 0 w
  rw [E0.out, E1.out] at SU
  have SUh := Lib.hid SU
  clear SU E0 E1
  go_enter Tryd.func50, Tryd.ntmps50
  go_wp2_with fail
  obtain ⟨B1, B2, _, BE⟩ := two_blk (w := w) (Below.refl _ ((w.alloc (.cells #[.int .u64 8, .int .u64 64] 40)).alloc (.cells #[.int .u64 0, .int .u64 0] 40)))
  obtain ⟨V, hV⟩ : ∃ V, (w.alloc (.cells #[.int .u64 8, .int .u64 64] 40)).alloc (.cells #[.int .u64 0, .int .u64 0] 40) = V := ⟨_, rfl⟩
  rw [hV] at B1 B2 BE ⊢
  obtain ⟨c0, c1, _, _⟩ := B1.two
  have B2h := Lib.hid B2
  have BEh := Lib.hid BE
  clear hV B1 B2 BE
  go_region_held3 (fun W => W.cell? ⟨w.heap.size, 0, none⟩ = some (.int .u64 8) ∧ W.cell? ⟨w.heap.size, 1, none⟩ = some (.int .u64 64))
    (go_keep)
    (first
      | (go_at_call 60; refine (lowest_4 V.drew).mono ?_; rintro e w2 ⟨rfl, hb2⟩; have n0 := Lib.hid (bkeep (w := V.drew) hb2 c0); have n1 := Lib.hid (bkeep (w := V.drew) hb2 c1); clear c0 c1; have c0 := n0.out; have c1 := n1.out; have B2i := Lib.hid (Blk.next (w := V.drew) B2h.out hb2); have BEi := Lib.hid (BEh.out.drew.trans (hb2.mono BEh.out.drew.size)))
      | (go_at_call 59; refine (SUh.out w2).mono ?_; rintro e w3 ⟨rfl, hb3⟩; have n2 := Lib.hid (bkeep hb3 c0); have n3 := Lib.hid (bkeep hb3 c1); clear c0 c1; have c0 := n2.out; have c1 := n3.out; obtain ⟨r0, r1, f0, f1⟩ := (B2i.out.next hb3).two; have BEj := Lib.hid (BEi.out.trans (hb3.mono BEi.out.size))))
  go_wp2_with fail
  refine bodyPost_ret (v := .agg #[.int .u64 0, .int .u64 64]) (by simp [results, Tryd.results50, go_sem, *]) rfl ⟨rfl, (BEj.out.setCell (by show w.heap.size ≤ w.heap.size + 1; omega) _).setCell (by show w.heap.size ≤ w.heap.size + 1; omega) _⟩
set_option maxRecDepth 100000 in
set_option maxHeartbeats 1000000 in
theorem below_ex (w : World) : Calls Tryd.prog 51 #[.agg #[.int .u64 8, .int .u64 64], .int .i64 70] w fun e w' => e = .returned (.agg #[.int .u64 8, .int .u64 0]) ∧ Below w.heap.size w w' := by
  have E0 := Lib.hid (show bits .and .u64 8 18446744073709551615 = 8 by decide +kernel)
  have E1 := Lib.hid (show bits .and .u64 64 63 = 0 by decide +kernel)
  have SU := fun w => and_any 8 64 18446744073709551615 63 w
  rw [E0.out, E1.out] at SU
  have SUh := Lib.hid SU
  clear SU E0 E1
  go_enter Tryd.func51, Tryd.ntmps51
  go_wp2_with fail
  obtain ⟨B1, B2, _, BE⟩ := two_blk (w := w) (Below.refl _ ((w.alloc (.cells #[.int .u64 8, .int .u64 64] 40)).alloc (.cells #[.int .u64 0, .int .u64 0] 40)))
  obtain ⟨V, hV⟩ : ∃ V, (w.alloc (.cells #[.int .u64 8, .int .u64 64] 40)).alloc (.cells #[.int .u64 0, .int .u64 0] 40) = V := ⟨_, rfl⟩
  rw [hV] at B1 B2 BE ⊢
  obtain ⟨c0, c1, _, _⟩ := B1.two
  have B2h := Lib.hid B2
  have BEh := Lib.hid BE
  clear hV B1 B2 BE
  go_region_held3 (fun W => W.cell? ⟨w.heap.size, 0, none⟩ = some (.int .u64 8) ∧ W.cell? ⟨w.heap.size, 1, none⟩ = some (.int .u64 64))
    (go_keep)
    (first
      | (go_at_call 60; refine (lowest_70 V.drew).mono ?_; rintro e w2 ⟨rfl, hb2⟩; have n0 := Lib.hid (bkeep (w := V.drew) hb2 c0); have n1 := Lib.hid (bkeep (w := V.drew) hb2 c1); clear c0 c1; have c0 := n0.out; have c1 := n1.out; have B2i := Lib.hid (Blk.next (w := V.drew) B2h.out hb2); have BEi := Lib.hid (BEh.out.drew.trans (hb2.mono BEh.out.drew.size)))
      | (go_at_call 61; refine (SUh.out w2).mono ?_; rintro e w3 ⟨rfl, hb3⟩; have n2 := Lib.hid (bkeep hb3 c0); have n3 := Lib.hid (bkeep hb3 c1); clear c0 c1; have c0 := n2.out; have c1 := n3.out; obtain ⟨r0, r1, f0, f1⟩ := (B2i.out.next hb3).two; have BEj := Lib.hid (BEi.out.trans (hb3.mono BEi.out.size))))
  go_wp2_with fail
  refine bodyPost_ret (v := .agg #[.int .u64 8, .int .u64 0]) (by simp [results, Tryd.results51, go_sem, *]) rfl ⟨rfl, (BEj.out.setCell (by show w.heap.size ≤ w.heap.size + 1; omega) _).setCell (by show w.heap.size ≤ w.heap.size + 1; omega) _⟩
end Go.Proofs.YtbjcigkakeffmaaDoor


namespace Go.Proofs.YtbjcigkakeffmaaDoor
open Go.RowKit
set_option linter.unusedSimpArgs false
set_option linter.unusedVariables false
theorem wrap_low (k : Nat) (hk : k ≤ 64) : IntKind.u64.wrap (IntKind.u64.wrap (2 ^ k) - 1) = ((2 ^ k - 1 : Nat) : Int) := by
  rcases Nat.lt_or_ge k 64 with h | h
  · rw [wrap_pow h, IntKind.wrap_u64]
    have := pow_lt64 h
    have h0 : 0 < 2 ^ k := Nat.pow_pos (by omega)
    omega
  · obtain rfl : k = 64 := by omega
    decide +kernel
theorem low_lt (k : Nat) (hk : k ≤ 64) : 2 ^ k - 1 < 18446744073709551616 := by
  have h1 : 2 ^ k ≤ 2 ^ 64 := Nat.pow_le_pow_right (by omega) hk
  have : (2 : Nat) ^ 64 = 18446744073709551616 := by decide
  omega
/-- all numbers below n -/
def lowF (n : Int) (j : Nat) : Bool := decide ((j : Int) < n)
theorem set_low (n : Int) : Value.agg #[.int .u64 ((2 ^ (min (max 0 (min n 128)) 64).toNat - 1 : Nat) : Int), .int .u64 ((2 ^ (max 0 (min n 128) - min (max 0 (min n 128)) 64).toNat - 1 : Nat) : Int)] = setV (lowF n) := by
  refine setV_of (low_lt _ (by omega)) (low_lt _ (by omega)) (fun j hj => ?_) (fun j hj => ?_)
  · rw [Nat.testBit_two_pow_sub_one]
    unfold lowF
    rw [decide_eq_decide]; omega
  · rw [Nat.testBit_two_pow_sub_one]
    unfold lowF
    rw [decide_eq_decide]; omega
set_option maxRecDepth 100000 in
set_option maxHeartbeats 1000000 in
theorem lowest_any (n : Int) (w : World) : Calls Tryd.prog 60 #[.int .i64 n] w fun e w' => e = .returned (setV (lowF n)) ∧ Below w.heap.size w w' := by
  rw [← set_low n, ← wrap_low _ (by omega), ← wrap_low _ (by omega)]
  rcases (show n ≤ 0 ∨ (0 < n ∧ n ≤ 64) ∨ (64 < n ∧ n ≤ 128) ∨ 128 < n by omega) with h | ⟨h, h'⟩ | ⟨h, h'⟩ | h
  · have h1 : (min (max 0 (min n 128)) 64).toNat = 0 := by omega
    have h2 : (max 0 (min n 128) - min (max 0 (min n 128)) 64).toNat = 0 := by omega
    rw [h1, h2]
    have H1 := Lib.hid h1
    have H2 := Lib.hid h2
    clear h1 h2
    go_enter Tryd.func60, Tryd.ntmps60
    go_wp2_with fail
    all_goals go_region
    all_goals go_wp2_with fail
    all_goals (
      refine bodyPost_ret (v := .agg #[.int .u64 (IntKind.u64.wrap (IntKind.u64.wrap (2 ^ (0)) - 1)), .int .u64 (IntKind.u64.wrap (IntKind.u64.wrap (2 ^ (0)) - 1))]) (by
        first
          | (simp [results, Tryd.results60, go_sem]; done)
          | (simp [results, Tryd.results60, go_sem, H1.out, H2.out]; done)
          | (have h1 := H1.out; have h2 := H2.out; simp [results, Tryd.results60, go_sem]; constructor <;> first | (rw [h1]; done) | (rw [h2]; done) | (rw [h1]; decide +kernel) | (rw [h2]; decide +kernel))
          | (simp [results, Tryd.results60, go_sem, *]; done)
          | (simp [results, Tryd.results60, go_sem]; constructor <;> first | rfl | decide +kernel | (congr 3; omega) | (congr 4; omega) | (congr 5; omega))) rfl ⟨rfl, ?_⟩
      exact ((Below.refl w.heap.size w).alloc (Nat.le_refl _) _).drew)
  · have h1 : (min (max 0 (min n 128)) 64).toNat = n.toNat := by omega
    have h2 : (max 0 (min n 128) - min (max 0 (min n 128)) 64).toNat = 0 := by omega
    rw [h1, h2]
    have H1 := Lib.hid h1
    have H2 := Lib.hid h2
    clear h1 h2
    go_enter Tryd.func60, Tryd.ntmps60
    go_wp2_with fail
    all_goals go_region
    all_goals go_wp2_with fail
    all_goals (
      refine bodyPost_ret (v := .agg #[.int .u64 (IntKind.u64.wrap (IntKind.u64.wrap (2 ^ (n.toNat)) - 1)), .int .u64 (IntKind.u64.wrap (IntKind.u64.wrap (2 ^ (0)) - 1))]) (by
        first
          | (simp [results, Tryd.results60, go_sem]; done)
          | (simp [results, Tryd.results60, go_sem, H1.out, H2.out]; done)
          | (have h1 := H1.out; have h2 := H2.out; simp [results, Tryd.results60, go_sem]; constructor <;> first | (rw [h1]; done) | (rw [h2]; done) | (rw [h1]; decide +kernel) | (rw [h2]; decide +kernel))
          | (simp [results, Tryd.results60, go_sem, *]; done)
          | (simp [results, Tryd.results60, go_sem]; constructor <;> first | rfl | decide +kernel | (congr 3; omega) | (congr 4; omega) | (congr 5; omega))) rfl ⟨rfl, ?_⟩
      exact ((Below.refl w.heap.size w).alloc (Nat.le_refl _) _).drew)
  · have h1 : (min (max 0 (min n 128)) 64).toNat = 64 := by omega
    have h2 : (max 0 (min n 128) - min (max 0 (min n 128)) 64).toNat = (n - 64).toNat := by omega
    rw [h1, h2]
    have H1 := Lib.hid h1
    have H2 := Lib.hid h2
    clear h1 h2
    go_enter Tryd.func60, Tryd.ntmps60
    go_wp2_with fail
    all_goals go_region
    all_goals go_wp2_with fail
    all_goals (
      refine bodyPost_ret (v := .agg #[.int .u64 (IntKind.u64.wrap (IntKind.u64.wrap (2 ^ (64)) - 1)), .int .u64 (IntKind.u64.wrap (IntKind.u64.wrap (2 ^ ((n - 64).toNat)) - 1))]) (by
        first
          | (simp [results, Tryd.results60, go_sem]; done)
          | (simp [results, Tryd.results60, go_sem, H1.out, H2.out]; done)
          | (have h1 := H1.out; have h2 := H2.out; simp [results, Tryd.results60, go_sem]; constructor <;> first | (rw [h1]; done) | (rw [h2]; done) | (rw [h1]; decide +kernel) | (rw [h2]; decide +kernel))
          | (simp [results, Tryd.results60, go_sem, *]; done)
          | (simp [results, Tryd.results60, go_sem]; constructor <;> first | rfl | decide +kernel | (congr 3; omega) | (congr 4; omega) | (congr 5; omega))) rfl ⟨rfl, ?_⟩
      exact ((Below.refl w.heap.size w).alloc (Nat.le_refl _) _).drew)
  · have h1 : (min (max 0 (min n 128)) 64).toNat = 64 := by omega
    have h2 : (max 0 (min n 128) - min (max 0 (min n 128)) 64).toNat = 64 := by omega
    rw [h1, h2]
    have H1 := Lib.hid h1
    have H2 := Lib.hid h2
    clear h1 h2
    go_enter Tryd.func60, Tryd.ntmps60
    go_wp2_with fail
    all_goals go_region
    all_goals go_wp2_with fail
    all_goals (
      refine bodyPost_ret (v := .agg #[.int .u64 (IntKind.u64.wrap (IntKind.u64.wrap (2 ^ (64)) - 1)), .int .u64 (IntKind.u64.wrap (IntKind.u64.wrap (2 ^ (64)) - 1))]) (by
        first
          | (simp [results, Tryd.results60, go_sem]; done)
          | (simp [results, Tryd.results60, go_sem, H1.out, H2.out]; done)
          | (have h1 := H1.out; have h2 := H2.out; simp [results, Tryd.results60, go_sem]; constructor <;> first | (rw [h1]; done) | (rw [h2]; done) | (rw [h1]; decide +kernel) | (rw [h2]; decide +kernel))
          | (simp [results, Tryd.results60, go_sem, *]; done)
          | (simp [results, Tryd.results60, go_sem]; constructor <;> first | rfl | decide +kernel | (congr 3; omega) | (congr 4; omega) | (congr 5; omega))) rfl ⟨rfl, ?_⟩
      exact ((Below.refl w.heap.size w).alloc (Nat.le_refl _) _).drew)
theorem and_lt64 {a b : Nat} (ha : a < 18446744073709551616) : a &&& b < 18446744073709551616 := Nat.lt_of_le_of_lt Nat.and_le_left ha
theorem and_set (F G : Nat → Bool) (w : World) : Calls Tryd.prog 61 #[setV F, setV G] w fun e w' => e = .returned (setV fun j => F j && G j) ∧ Below w.heap.size w w' := by
  have h := and_any (wordX F) (wordY F) (wordX G) (wordY G) w
  rw [bits_and64 _ _ (wordX_lt F) (wordX_lt G), bits_and64 _ _ (wordY_lt F) (wordY_lt G), setV_of (F := fun j => F j && G j) (and_lt64 (wordX_lt F)) (and_lt64 (wordY_lt F))
    (fun j hj => by rw [Nat.testBit_and, wordX_bit, wordX_bit]; simp [hj]) (fun j hj => by rw [Nat.testBit_and, wordY_bit, wordY_bit]; simp [hj])] at h
  exact h
/-- what is in a and not in b -/
def anN (a b : Nat) : Nat := (BitVec.ofNat 64 a &&& ~~~BitVec.ofNat 64 b).toNat
theorem anN_lt (a b : Nat) : anN a b < 18446744073709551616 := (BitVec.ofNat 64 a &&& ~~~BitVec.ofNat 64 b).isLt
theorem anN_bit (a b j : Nat) (hj : j < 64) : (anN a b).testBit j = (a.testBit j && !b.testBit j) := by
  unfold anN
  rw [BitVec.testBit_toNat, BitVec.getLsbD_and, BitVec.getLsbD_not, BitVec.getLsbD_ofNat, BitVec.getLsbD_ofNat]
  simp [hj]
theorem bits_an64 (a b : Nat) : bits .andNot .u64 (a : Int) (b : Int) = (anN a b : Int) := by
  unfold bits
  show IntKind.u64.wrap ((BitVec.ofInt 64 (a : Int) &&& ~~~BitVec.ofInt 64 (b : Int)).toNat : Int) = _
  rw [bv64, bv64]
  exact wrap_nat64 (anN_lt a b)
theorem sub_set (F G : Nat → Bool) (w : World) : Calls Tryd.prog 59 #[setV F, setV G] w fun e w' => e = .returned (setV fun j => F j && !G j) ∧ Below w.heap.size w w' := by
  have h := sub_any (wordX F) (wordY F) (wordX G) (wordY G) w
  rw [bits_an64, bits_an64, setV_of (F := fun j => F j && !G j) (anN_lt _ _) (anN_lt _ _)
    (fun j hj => by rw [anN_bit _ _ _ hj, wordX_bit, wordX_bit]; simp [hj]) (fun j hj => by rw [anN_bit _ _ _ hj, wordY_bit, wordY_bit]; simp [hj])] at h
  exact h
set_option maxRecDepth 100000 in
set_option maxHeartbeats 1000000 in
theorem from_any (F : Nat → Bool) (n : Int) (w : World) : Calls Tryd.prog 50 #[setV F, .int .i64 n] w fun e w' => e = .returned (setV fun j => F j && !lowF n j) ∧ Below w.heap.size w w' := by
  have SU := sub_set F (lowF n)
  have LO := lowest_any n
  unfold setV at SU LO ⊢
  obtain ⟨x, hX⟩ : ∃ x, wordX F = x := ⟨_, rfl⟩
  obtain ⟨y, hY⟩ : ∃ y, wordY F = y := ⟨_, rfl⟩
  obtain ⟨a, hA⟩ : ∃ x, wordX (lowF n) = x := ⟨_, rfl⟩
  obtain ⟨b, hB⟩ : ∃ x, wordY (lowF n) = x := ⟨_, rfl⟩
  obtain ⟨r, hR⟩ : ∃ x, wordX (fun j => F j && !lowF n j) = x := ⟨_, rfl⟩
  obtain ⟨t, hT⟩ : ∃ x, wordY (fun j => F j && !lowF n j) = x := ⟨_, rfl⟩
  rw [hX, hY, hA, hB, hR, hT] at SU
  rw [hA, hB] at LO
  rw [hX, hY, hR, hT]
  have SUh := Lib.hid SU
  have LOh := Lib.hid LO
  clear SU LO hX hY hA hB hR hT
  go_enter Tryd.func50, Tryd.ntmps50
  go_wp2_with fail
  obtain ⟨B1, B2, _, BE⟩ := two_blk (w := w) (Below.refl _ ((w.alloc (.cells #[.int .u64 x, .int .u64 y] 40)).alloc (.cells #[.int .u64 0, .int .u64 0] 40)))
  obtain ⟨V, hV⟩ : ∃ V, (w.alloc (.cells #[.int .u64 x, .int .u64 y] 40)).alloc (.cells #[.int .u64 0, .int .u64 0] 40) = V := ⟨_, rfl⟩
  rw [hV] at B1 B2 BE ⊢
  obtain ⟨c0, c1, _, _⟩ := B1.two
  have B2h := Lib.hid B2
  have BEh := Lib.hid BE
  clear hV B1 B2 BE
  go_region_held3 (fun W => W.cell? ⟨w.heap.size, 0, none⟩ = some (.int .u64 x) ∧ W.cell? ⟨w.heap.size, 1, none⟩ = some (.int .u64 y))
    (go_keep)
    (first
      | (go_at_call 60; refine (LOh.out V.drew).mono ?_; rintro e w2 ⟨rfl, hb2⟩; have n0 := Lib.hid (bkeep (w := V.drew) hb2 c0); have n1 := Lib.hid (bkeep (w := V.drew) hb2 c1); clear c0 c1; have c0 := n0.out; have c1 := n1.out; have B2i := Lib.hid (Blk.next (w := V.drew) B2h.out hb2); have BEi := Lib.hid (BEh.out.drew.trans (hb2.mono BEh.out.drew.size)))
      | (go_at_call 59; refine (SUh.out w2).mono ?_; rintro e w3 ⟨rfl, hb3⟩; have n2 := Lib.hid (bkeep hb3 c0); have n3 := Lib.hid (bkeep hb3 c1); clear c0 c1; have c0 := n2.out; have c1 := n3.out; obtain ⟨r0, r1, f0, f1⟩ := (B2i.out.next hb3).two; have BEj := Lib.hid (BEi.out.trans (hb3.mono BEi.out.size))))
  go_wp2_with fail
  refine bodyPost_ret (v := .agg #[.int .u64 r, .int .u64 t]) (by simp [results, Tryd.results50, go_sem, *]) rfl ⟨rfl, (BEj.out.setCell (by show w.heap.size ≤ w.heap.size + 1; omega) _).setCell (by show w.heap.size ≤ w.heap.size + 1; omega) _⟩
set_option maxRecDepth 100000 in
set_option maxHeartbeats 1000000 in
theorem below_any (F : Nat → Bool) (n : Int) (w : World) : Calls Tryd.prog 51 #[setV F, .int .i64 n] w fun e w' => e = .returned (setV fun j => F j && lowF n j) ∧ Below w.heap.size w w' := by
  have SU := and_set F (lowF n)
  have LO := lowest_any n
  unfold setV at SU LO ⊢
  obtain ⟨x, hX⟩ : ∃ x, wordX F = x := ⟨_, rfl⟩
  obtain ⟨y, hY⟩ : ∃ y, wordY F = y := ⟨_, rfl⟩
  obtain ⟨a, hA⟩ : ∃ x, wordX (lowF n) = x := ⟨_, rfl⟩
  obtain ⟨b, hB⟩ : ∃ x, wordY (lowF n) = x := ⟨_, rfl⟩
  obtain ⟨r, hR⟩ : ∃ x, wordX (fun j => F j && lowF n j) = x := ⟨_, rfl⟩
  obtain ⟨t, hT⟩ : ∃ x, wordY (fun j => F j && lowF n j) = x := ⟨_, rfl⟩
  rw [hX, hY, hA, hB, hR, hT] at SU
  rw [hA, hB] at LO
  rw [hX, hY, hR, hT]
  have SUh := Lib.hid SU
  have LOh := Lib.hid LO
  clear SU LO hX hY hA hB hR hT
  go_enter Tryd.func51, Tryd.ntmps51
  go_wp2_with fail
  obtain ⟨B1, B2, _, BE⟩ := two_blk (w := w) (Below.refl _ ((w.alloc (.cells #[.int .u64 x, .int .u64 y] 40)).alloc (.cells #[.int .u64 0, .int .u64 0] 40)))
  obtain ⟨V, hV⟩ : ∃ V, (w.alloc (.cells #[.int .u64 x, .int .u64 y] 40)).alloc (.cells #[.int .u64 0, .int .u64 0] 40) = V := ⟨_, rfl⟩
  rw [hV] at B1 B2 BE ⊢
  obtain ⟨c0, c1, _, _⟩ := B1.two
  have B2h := Lib.hid B2
  have BEh := Lib.hid BE
  clear hV B1 B2 BE
  go_region_held3 (fun W => W.cell? ⟨w.heap.size, 0, none⟩ = some (.int .u64 x) ∧ W.cell? ⟨w.heap.size, 1, none⟩ = some (.int .u64 y))
    (go_keep)
    (first
      | (go_at_call 60; refine (LOh.out V.drew).mono ?_; rintro e w2 ⟨rfl, hb2⟩; have n0 := Lib.hid (bkeep (w := V.drew) hb2 c0); have n1 := Lib.hid (bkeep (w := V.drew) hb2 c1); clear c0 c1; have c0 := n0.out; have c1 := n1.out; have B2i := Lib.hid (Blk.next (w := V.drew) B2h.out hb2); have BEi := Lib.hid (BEh.out.drew.trans (hb2.mono BEh.out.drew.size)))
      | (go_at_call 61; refine (SUh.out w2).mono ?_; rintro e w3 ⟨rfl, hb3⟩; have n2 := Lib.hid (bkeep hb3 c0); have n3 := Lib.hid (bkeep hb3 c1); clear c0 c1; have c0 := n2.out; have c1 := n3.out; obtain ⟨r0, r1, f0, f1⟩ := (B2i.out.next hb3).two; have BEj := Lib.hid (BEi.out.trans (hb3.mono BEi.out.size))))
  go_wp2_with fail
  refine bodyPost_ret (v := .agg #[.int .u64 r, .int .u64 t]) (by simp [results, Tryd.results51, go_sem, *]) rfl ⟨rfl, (BEj.out.setCell (by show w.heap.size ≤ w.heap.size + 1; omega) _).setCell (by show w.heap.size ≤ w.heap.size + 1; omega) _⟩
end Go.Proofs.YtbjcigkakeffmaaDoor


namespace Go.Proofs.YtbjcigkakeffmaaDoor
open Go.RowKit
set_option linter.unusedSimpArgs false
set_option linter.unusedVariables false
/-- is a number in a set? -/
def hasF (F : Nat → Bool) (z : Int) : Bool := decide (0 ≤ z) && decide (z < 128) && F z.toNat
theorem hasF_out (F : Nat → Bool) {z : Int} (h : z < 0 ∨ 128 ≤ z) : hasF F z = false := by
  unfold hasF
  rcases h with h | h
  · simp; omega
  · simp; omega
theorem hasF_in (F : Nat → Bool) {n : Nat} (h : n < 128) : hasF F n = F n := by
  unfold hasF
  simp; omega
theorem and_pow (x n : Nat) : x &&& 2 ^ n = (x.testBit n).toNat * 2 ^ n := by
  apply Nat.eq_of_testBit_eq
  intro j
  rw [Nat.testBit_and, Nat.testBit_two_pow]
  cases h : x.testBit n
  · by_cases e : n = j
    · subst e; simp [h]
    · simp [e]
  · by_cases e : n = j
    · subst e; simp [h, Nat.testBit_two_pow_self]
    · simp [e, Nat.testBit_two_pow]
/-- a bit, looked at by its word's power -/
theorem bits_look (x n : Nat) (hx : x < 18446744073709551616) (hn : n < 64) : bits .and .u64 (x : Int) ((2 ^ n : Nat) : Int) = if x.testBit n then ((2 ^ n : Nat) : Int) else 0 := by
  rw [bits_and64 _ _ hx (pow_lt64 hn), and_pow]
  cases x.testBit n <;> simp
set_option maxRecDepth 100000 in
set_option maxHeartbeats 400000 in
theorem has_any (F : Nat → Bool) (z : Int) (w : World) :
    Calls Tryd.prog 40 #[setV F, .int .i64 z] w fun e w' => e = .returned (.bool (hasF F z)) ∧ Below w.heap.size w w' := by
  by_cases hz : z < 0 ∨ 128 ≤ z
  · rw [hasF_out F hz]
    unfold setV
    obtain ⟨x, hX⟩ : ∃ x, wordX F = x := ⟨_, rfl⟩
    obtain ⟨y, hY⟩ : ∃ y, wordY F = y := ⟨_, rfl⟩
    rw [hX, hY]
    have FN := Lib.hid fun w => fits_no z w hz
    clear hX hY hz
    go_enter Tryd.func40, Tryd.ntmps40
    go_wp2_with (go_at_call 53; refine (FN.out _).mono ?_; rintro e w' ⟨rfl, rfl⟩)
    go_ret
    exact ⟨rfl, (Below.refl w.heap.size w).alloc (Nat.le_refl _) _⟩
  · obtain ⟨n, rfl⟩ := Int.eq_ofNat_of_zero_le (show 0 ≤ z by omega)
    have hn2 : n < 128 := by omega
    rw [hasF_in F hn2]
    clear hz
    by_cases hn : n < 64
    · have e1 : n / 64 = 0 := by omega
      have e2 : n % 64 = n := by omega
      have hx := wordX_lt F
      have B := bits_look _ n hx hn
      rw [wordX_bit] at B
      simp only [hn, decide_true, Bool.true_and] at B
      have hp : 0 < 2 ^ n := Nat.pow_pos (by omega)
      unfold setV
      obtain ⟨x, hX⟩ : ∃ x, wordX F = x := ⟨_, rfl⟩
      obtain ⟨y, hY⟩ : ∃ y, wordY F = y := ⟨_, rfl⟩
      obtain ⟨q, hq⟩ : ∃ q, 2 ^ n = q := ⟨_, rfl⟩
      have BA := Lib.hid (fun w => bit_any n w hn2)
      have FY := Lib.hid (fun w => fits_yes n w hn2)
      rw [e1, e2, hq] at BA
      rw [hX] at hx B ⊢
      rw [hY]
      rw [hq] at hp B
      have hq0 : ((q : Int) == 0) = false := by rw [beq_eq_false_iff_ne]; omega
      clear hq hX hY e1 e2
      cases hF : F n
      all_goals (
        rw [hF] at B
        simp only [if_true, if_false, Bool.false_eq_true] at B
        clear hF
        go_enter Tryd.func40, Tryd.ntmps40
        go_wp2_with (first
          | (go_at_call 54; refine (BA.out _).mono ?_; rintro e w' ⟨rfl, k, rfl⟩)
          | (go_at_call 53; refine (FY.out _).mono ?_; rintro e w' ⟨rfl, rfl⟩))
        go_ret
        exact ⟨retB (by first | rfl | (simp only [bne, hq0]; rfl)), below_drewN ((Below.refl w.heap.size w).alloc (Nat.le_refl _) _) _⟩)
    · have e1 : n / 64 = 1 := by omega
      have e2 : n % 64 = n - 64 := by omega
      have hy := wordY_lt F
      have B := bits_look _ (n - 64) hy (by omega)
      rw [wordY_bit] at B
      simp only [show n - 64 < 64 by omega, decide_true, Bool.true_and, show 64 + (n - 64) = n by omega] at B
      have hp : 0 < 2 ^ (n - 64) := Nat.pow_pos (by omega)
      unfold setV
      obtain ⟨x, hX⟩ : ∃ x, wordX F = x := ⟨_, rfl⟩
      obtain ⟨y, hY⟩ : ∃ y, wordY F = y := ⟨_, rfl⟩
      obtain ⟨q, hq⟩ : ∃ q, 2 ^ (n - 64) = q := ⟨_, rfl⟩
      have BA := Lib.hid (fun w => bit_any n w hn2)
      have FY := Lib.hid (fun w => fits_yes n w hn2)
      rw [e1, e2, hq] at BA
      rw [hY] at hy B ⊢
      rw [hX]
      rw [hq] at hp B
      have hq0 : ((q : Int) == 0) = false := by rw [beq_eq_false_iff_ne]; omega
      clear hq hX hY e1 e2
      cases hF : F n
      all_goals (
        rw [hF] at B
        simp only [if_true, if_false, Bool.false_eq_true] at B
        clear hF
        go_enter Tryd.func40, Tryd.ntmps40
        go_wp2_with (first
          | (go_at_call 54; refine (BA.out _).mono ?_; rintro e w' ⟨rfl, k, rfl⟩)
          | (go_at_call 53; refine (FY.out _).mono ?_; rintro e w' ⟨rfl, rfl⟩))
        go_ret
        exact ⟨retB (by first | rfl | (simp only [bne, hq0]; rfl)), below_drewN ((Below.refl w.heap.size w).alloc (Nat.le_refl _) _) _⟩)
/-- the document's: a word, halved so many times -/
def hv (x : Nat) (k : Nat) : Nat := x / 2 ^ k
theorem hv_zero (x : Nat) : hv x 0 = x := by unfold hv; simp
theorem hv_succ (x k : Nat) : hv x (k + 1) = hv x k / 2 := by unfold hv; rw [Nat.pow_succ, Nat.div_div_eq_div_mul]
theorem hv_lt {x : Nat} (k : Nat) (h : x < 18446744073709551616) : hv x k < 18446744073709551616 := Nat.lt_of_le_of_lt (Nat.div_le_self _ _) h
theorem hv_bit (x k : Nat) : ((hv x k : Int) % 2 == 1) = x.testBit k := by
  unfold hv
  rw [Nat.testBit_eq_decide_div_mod_eq]
  generalize x / 2 ^ k = q
  rw [Bool.eq_iff_iff]; simp; omega
set_option maxRecDepth 100000 in
set_option maxHeartbeats 1000000 in
theorem rhas_any (F : Nat → Bool) (z : Int) (w : World) :
    Calls Tryd.prog 38 #[setV F, .int .i64 z] w fun e w' => e = .returned (.bool (hasF F z)) ∧ Below w.heap.size w w' := by
  by_cases hz : z < 0 ∨ 128 ≤ z
  · rw [hasF_out F hz]
    unfold setV
    rcases hz with hz | hz
    all_goals (
      go_enter Tryd.func38, Tryd.ntmps38
      go_wp2_with fail
      go_ret
      exact ⟨rfl, (Below.refl w.heap.size w).alloc (Nat.le_refl _) _⟩)
  · obtain ⟨n, rfl⟩ := Int.eq_ofNat_of_zero_le (show 0 ≤ z by omega)
    have hn2 : n < 128 := by omega
    rw [hasF_in F hn2]
    have hx := wordX_lt F
    have hy := wordY_lt F
    have BX := wordX_bit F
    have BY := wordY_bit F
    unfold setV
    obtain ⟨x, hX⟩ : ∃ x, wordX F = x := ⟨_, rfl⟩
    obtain ⟨y, hY⟩ : ∃ y, wordY F = y := ⟨_, rfl⟩
    rw [hX] at hx BX ⊢
    rw [hY] at hy BY ⊢
    have hnI : (n : Int) < 128 := by omega
    obtain ⟨u, m, hm, hmi, hu, hul, hb⟩ : ∃ (u m : Nat), n % 64 = m ∧ m < 64 ∧ (if n < 64 then x else y) = u ∧ u < 18446744073709551616 ∧ u.testBit m = F n := by
      by_cases h : n < 64
      · exact ⟨x, n, by omega, h, by rw [if_pos h], hx, by rw [BX]; simp [h]⟩
      · exact ⟨y, n - 64, by omega, by omega, by rw [if_neg h], hy, by rw [BY, show 64 + (n - 64) = n by omega]; simp; omega⟩
    have BXh := Lib.hid hb
    clear BX BY hX hY hz hb
    have VE := (Below.refl w.heap.size w).alloc (Nat.le_refl _) (.cells #[(.int .u64 x : Value), .int .u64 y] 40)
    have eR : ((n : Int) % 64) = (m : Int) := by omega
    by_cases h : n < 64
    · simp only [h, if_true, if_false] at hu
      subst hu
      have e : n / 64 = 0 := by omega
      clear hm
      go_enter Tryd.func38, Tryd.ntmps38
      go_wp2_with fail
      clear e h hnI hn2
      obtain ⟨V, hV⟩ : ∃ V, w.alloc (.cells #[(.int .u64 x : Value), .int .u64 y] 40) = V := ⟨_, rfl⟩
      rw [hV] at VE ⊢
      have VEh := Lib.hid VE
      clear hV VE
      go_loopg [5, 6] m (fun gh v i wr => ∃ k : Nat, k ≤ m ∧ gh = m - k ∧ i = .int .i64 k ∧ wr = V ∧ ∃ q : Nat, v = .int .u64 q ∧ Hid (hv x k = q))
      case atStart => exact ⟨0, by omega, rfl, rfl, rfl, x, rfl, Lib.hid (hv_zero _)⟩
      case round =>
        obtain ⟨k, hk, rfl, rfl, rfl, q, rfl, hq⟩ := hrel
        by_cases h : k < m
        · have hkI : (k : Int) < m := by omega
          have hql : q < 18446744073709551616 := by rw [← hq.out]; exact hv_lt k hul
          have hq2 : Hid (hv x (k + 1) = q / 2) := Lib.hid (by rw [hv_succ, hq.out])
          clear hq
          go_wp2_with fail
          go_roundg (m - (k + 1))
          case measure => omega
          case rel => exact ⟨k + 1, by omega, rfl, by go_num, rfl, q / 2, by simp, hq2⟩
        · obtain rfl : k = m := by omega
          have hql : q < 18446744073709551616 := by rw [← hq.out]; exact hv_lt k hul
          have R : Hid (((q : Int) % 2 == 1) = F n) := Lib.hid (by rw [← hq.out, hv_bit, BXh.out])
          clear hq
          go_wp2_with fail
          go_ret
          exact ⟨retB R.out, VEh.out⟩
    · simp only [h, if_true, if_false] at hu
      subst hu
      have e : n / 64 = 1 := by omega
      clear hm
      go_enter Tryd.func38, Tryd.ntmps38
      go_wp2_with fail
      clear e h hnI hn2
      obtain ⟨V, hV⟩ : ∃ V, w.alloc (.cells #[(.int .u64 x : Value), .int .u64 y] 40) = V := ⟨_, rfl⟩
      rw [hV] at VE ⊢
      have VEh := Lib.hid VE
      clear hV VE
      go_loopg [5, 6] m (fun gh v i wr => ∃ k : Nat, k ≤ m ∧ gh = m - k ∧ i = .int .i64 k ∧ wr = V ∧ ∃ q : Nat, v = .int .u64 q ∧ Hid (hv y k = q))
      case atStart => exact ⟨0, by omega, rfl, rfl, rfl, y, rfl, Lib.hid (hv_zero _)⟩
      case round =>
        obtain ⟨k, hk, rfl, rfl, rfl, q, rfl, hq⟩ := hrel
        by_cases h : k < m
        · have hkI : (k : Int) < m := by omega
          have hql : q < 18446744073709551616 := by rw [← hq.out]; exact hv_lt k hul
          have hq2 : Hid (hv y (k + 1) = q / 2) := Lib.hid (by rw [hv_succ, hq.out])
          clear hq
          go_wp2_with fail
          go_roundg (m - (k + 1))
          case measure => omega
          case rel => exact ⟨k + 1, by omega, rfl, by go_num, rfl, q / 2, by simp, hq2⟩
        · obtain rfl : k = m := by omega
          have hql : q < 18446744073709551616 := by rw [← hq.out]; exact hv_lt k hul
          have R : Hid (((q : Int) % 2 == 1) = F n) := Lib.hid (by rw [← hq.out, hv_bit, BXh.out])
          clear hq
          go_wp2_with fail
          go_ret
          exact ⟨retB R.out, VEh.out⟩
/-- a set without a number -/
def woutF (F : Nat → Bool) (z : Int) (j : Nat) : Bool := F j && !((j : Int) == z)
theorem woutF_out (F : Nat → Bool) {z : Int} (hz : z < 0 ∨ 128 ≤ z) : setV (woutF F z) = setV F := setV_congr fun j hj => by
  unfold woutF
  have : ((j : Int) == z) = false := by rw [beq_eq_false_iff_ne]; omega
  rw [this]; simp
theorem setV_an_low (F : Nat → Bool) (n : Nat) (hn : n < 64) : Value.agg #[.int .u64 ((anN (wordX F) (2 ^ n) : Nat) : Int), .int .u64 (wordY F)] = setV (woutF F n) := by
  refine setV_of (anN_lt _ _) (wordY_lt F) (fun j hj => ?_) (fun j hj => ?_)
  · rw [anN_bit _ _ _ hj, wordX_bit, Nat.testBit_two_pow]
    unfold woutF
    by_cases e : n = j
    · subst e; simp
    · have : ((j : Int) == (n : Int)) = false := by rw [beq_eq_false_iff_ne]; omega
      rw [this]; simp [hj, e]
  · rw [wordY_bit]
    unfold woutF
    have : (((64 + j : Nat) : Int) == (n : Int)) = false := by rw [beq_eq_false_iff_ne]; omega
    rw [this]; simp [hj]
theorem setV_an_high (F : Nat → Bool) (n : Nat) (h : 64 ≤ n) (hn : n < 128) : Value.agg #[.int .u64 (wordX F), .int .u64 ((anN (wordY F) (2 ^ (n - 64)) : Nat) : Int)] = setV (woutF F n) := by
  refine setV_of (wordX_lt F) (anN_lt _ _) (fun j hj => ?_) (fun j hj => ?_)
  · rw [wordX_bit]
    unfold woutF
    have : ((j : Int) == (n : Int)) = false := by rw [beq_eq_false_iff_ne]; omega
    rw [this]; simp [hj]
  · rw [anN_bit _ _ _ hj, wordY_bit, Nat.testBit_two_pow]
    unfold woutF
    by_cases e : n - 64 = j
    · have : (((64 + j : Nat) : Int) == (n : Int)) = true := by rw [beq_iff_eq]; omega
      rw [this]; simp [e]
    · have : (((64 + j : Nat) : Int) == (n : Int)) = false := by rw [beq_eq_false_iff_ne]; omega
      rw [this]; simp [hj, e]
set_option maxRecDepth 100000 in
set_option maxHeartbeats 400000 in
theorem wout_low (F : Nat → Bool) (n : Nat) (w : World) (hn : n < 64) :
    Calls Tryd.prog 49 #[setV F, .int .i64 n] w fun e w' => e = .returned (setV (woutF F n)) ∧ Below w.heap.size w w' := by
  have hn2 : n < 128 := by omega
  have e1 : n / 64 = 0 := by omega
  have e2 : n % 64 = n := by omega
  have B := Lib.hid (bits_an64 (wordX F) (2 ^ (n)))
  have S := Lib.hid (setV_an_low F n hn)
  unfold setV
  obtain ⟨x, hX⟩ : ∃ x, wordX F = x := ⟨_, rfl⟩
  obtain ⟨y, hY⟩ : ∃ y, wordY F = y := ⟨_, rfl⟩
  obtain ⟨q, hq⟩ : ∃ q, 2 ^ (n) = q := ⟨_, rfl⟩
  have BA := Lib.hid (fun w => bit_any n w hn2)
  have FY := Lib.hid (fun w => fits_yes n w hn2)
  rw [e1, e2, hq] at BA
  rw [hX] at S B ⊢
  rw [hY] at S  ⊢
  rw [hq] at S B
  clear hq hX hY
  go_enter Tryd.func49, Tryd.ntmps49
  go_wp2_with (first
    | (go_at_call 54; refine (BA.out _).mono ?_; rintro e w' ⟨rfl, k, rfl⟩)
    | (go_at_call 53; refine (FY.out _).mono ?_; rintro e w' ⟨rfl, rfl⟩))
  rw [B.out]
  refine bodyPost_ret (v := .agg #[.int .u64 ((anN x q : Nat) : Int), .int .u64 y]) (by simp [results, Tryd.results49, go_sem]) rfl ⟨by rw [S.out]; rfl, ?_⟩
  exact (((below_drewN (((Below.refl w.heap.size w).alloc (Nat.le_refl _) _).alloc (by simp) _) _).setCell (Nat.le_refl _) _).setCell (by show w.heap.size ≤ w.heap.size + 1; omega) _).setCell (by show w.heap.size ≤ w.heap.size + 1; omega) _
set_option maxRecDepth 100000 in
set_option maxHeartbeats 400000 in
theorem wout_high (F : Nat → Bool) (n : Nat) (w : World) (h : 64 ≤ n) (hn : n < 128) :
    Calls Tryd.prog 49 #[setV F, .int .i64 n] w fun e w' => e = .returned (setV (woutF F n)) ∧ Below w.heap.size w w' := by
  have hn2 : n < 128 := by omega
  have e1 : n / 64 = 1 := by omega
  have e2 : n % 64 = n - 64 := by omega
  have B := Lib.hid (bits_an64 (wordY F) (2 ^ (n - 64)))
  have S := Lib.hid (setV_an_high F n h hn)
  unfold setV
  obtain ⟨x, hX⟩ : ∃ x, wordX F = x := ⟨_, rfl⟩
  obtain ⟨y, hY⟩ : ∃ y, wordY F = y := ⟨_, rfl⟩
  obtain ⟨q, hq⟩ : ∃ q, 2 ^ (n - 64) = q := ⟨_, rfl⟩
  have BA := Lib.hid (fun w => bit_any n w hn2)
  have FY := Lib.hid (fun w => fits_yes n w hn2)
  rw [e1, e2, hq] at BA
  rw [hX] at S  ⊢
  rw [hY] at S B ⊢
  rw [hq] at S B
  clear hq hX hY
  go_enter Tryd.func49, Tryd.ntmps49
  go_wp2_with (first
    | (go_at_call 54; refine (BA.out _).mono ?_; rintro e w' ⟨rfl, k, rfl⟩)
    | (go_at_call 53; refine (FY.out _).mono ?_; rintro e w' ⟨rfl, rfl⟩))
  rw [B.out]
  refine bodyPost_ret (v := .agg #[.int .u64 x, .int .u64 ((anN y q : Nat) : Int)]) (by simp [results, Tryd.results49, go_sem]) rfl ⟨by rw [S.out]; rfl, ?_⟩
  exact (((below_drewN (((Below.refl w.heap.size w).alloc (Nat.le_refl _) _).alloc (by simp) _) _).setCell (Nat.le_refl _) _).setCell (by show w.heap.size ≤ w.heap.size + 1; omega) _).setCell (by show w.heap.size ≤ w.heap.size + 1; omega) _
set_option maxRecDepth 100000 in
set_option maxHeartbeats 400000 in
theorem wout_any (F : Nat → Bool) (z : Int) (w : World) :
    Calls Tryd.prog 49 #[setV F, .int .i64 z] w fun e w' => e = .returned (setV (woutF F z)) ∧ Below w.heap.size w w' := by
  by_cases hz : z < 0 ∨ 128 ≤ z
  · rw [woutF_out F hz]
    unfold setV
    obtain ⟨x, hX⟩ : ∃ x, wordX F = x := ⟨_, rfl⟩
    obtain ⟨y, hY⟩ : ∃ y, wordY F = y := ⟨_, rfl⟩
    rw [hX, hY]
    have FN := Lib.hid fun w => fits_no z w hz
    clear hX hY hz
    go_enter Tryd.func49, Tryd.ntmps49
    go_wp2_with (go_at_call 53; refine (FN.out _).mono ?_; rintro e w' ⟨rfl, rfl⟩)
    refine bodyPost_ret (v := .agg #[.int .u64 x, .int .u64 y]) (by simp [results, Tryd.results49, go_sem]) rfl ⟨rfl, ?_⟩
    exact ((Below.refl w.heap.size w).alloc (Nat.le_refl _) _).alloc (by simp) _
  · obtain ⟨n, rfl⟩ := Int.eq_ofNat_of_zero_le (show 0 ≤ z by omega)
    by_cases h : n < 64
    · exact wout_low F n w h
    · exact wout_high F n w (by omega) (by omega)
end Go.Proofs.YtbjcigkakeffmaaDoor


namespace Go.Proofs.YtbjcigkakeffmaaDoor
open Go.RowKit
set_option linter.unusedSimpArgs false
set_option linter.unusedVariables false
theorem zc_none : zc = rowC (fun _ => false) 128 := by
  rw [zero128 fun _ => false]
  unfold rowC
  congr 1
theorem rowC_with (F : Nat → Bool) (n : Nat) (hn : n < 128) : (rowC F 128).setIfInBounds n (.bool true) = rowC (withF F n) 128 := by
  apply Array.ext
  · simp [rowC]
  · intro i h1 h2
    have hi : i < 128 := by simpa [rowC] using h2
    rw [Array.getElem_setIfInBounds (by simpa [rowC] using hi)]
    unfold withF
    split
    · rename_i e; subst e; simp [rowC, hi]
    · rename_i e
      simp only [rowC, List.getElem_toArray, List.getElem_map, List.getElem_range]
      have : ((i : Int) == (n : Int)) = false := by rw [beq_eq_false_iff_ne]; omega
      rw [this, Bool.or_false]
theorem rowC_wout (F : Nat → Bool) {z : Int} (hz : z < 0 ∨ 128 ≤ z) : rowC F 128 = rowC (withF F z) 128 := rowC_congr fun j hj => by
  unfold withF
  have : ((j : Int) == z) = false := by rw [beq_eq_false_iff_ne]; omega
  rw [this, Bool.or_false]
structure RfW (w X : World) (cs : Array Value) : Prop where
  r : Blk X w.heap.size 40 #[.int .u64 0, .int .u64 0]
  s : Blk X (w.heap.size + 1) 76 cs
  e : Below w.heap.size w X
end Go.Proofs.YtbjcigkakeffmaaDoor


namespace Go.Proofs.YtbjcigkakeffmaaDoor
open Go.RowKit
set_option linter.unusedSimpArgs false
set_option linter.unusedVariables false
/-- the numbers of a set below k, rising -/
def itL (F : Nat → Bool) : Nat → List Int
  | 0 => []
  | k + 1 => if F k then itL F k ++ [(k : Int)] else itL F k
theorem itL_no {F : Nat → Bool} {k : Nat} (h : F k = false) : itL F (k + 1) = itL F k := by
  show (if F k then _ else _) = _
  rw [h]; rfl
theorem itL_yes {F : Nat → Bool} {k : Nat} (h : F k = true) : itL F (k + 1) = itL F k ++ [(k : Int)] := by
  show (if F k then _ else _) = _
  rw [h]; rfl
theorem itL_len (F : Nat → Bool) : ∀ k, (itL F k).length ≤ k
  | 0 => Nat.le_refl _
  | k + 1 => by
    have := itL_len F k
    unfold itL
    split
    · rw [List.length_append, List.length_singleton]; omega
    · omega
theorem itL_mem (F : Nat → Bool) (z : Int) : ∀ k, z ∈ itL F k ↔ ∃ m : Nat, m < k ∧ F m = true ∧ z = m
  | 0 => by simp [itL]
  | k + 1 => by
    unfold itL
    have ih := itL_mem F z k
    split
    · rename_i h
      rw [List.mem_append, ih, List.mem_singleton]
      constructor
      · rintro (⟨m, h1, h2, h3⟩ | h3)
        · exact ⟨m, by omega, h2, h3⟩
        · exact ⟨k, by omega, h, h3⟩
      · rintro ⟨m, h1, h2, h3⟩
        by_cases e : m = k
        · subst e; exact .inr h3
        · exact .inl ⟨m, by omega, h2, h3⟩
    · rename_i h
      rw [ih]
      constructor
      · rintro ⟨m, h1, h2, h3⟩; exact ⟨m, by omega, h2, h3⟩
      · rintro ⟨m, h1, h2, h3⟩
        by_cases e : m = k
        · subst e; exact absurd h2 h
        · exact ⟨m, by omega, h2, h3⟩
theorem zat_mem {zs : List Int} {i : Nat} (h : i < zs.length) : zat zs i ∈ zs := by
  have := zat_get h
  exact List.mem_of_getElem? this
theorem mem_zat {zs : List Int} {z : Int} (h : z ∈ zs) : ∃ i, i < zs.length ∧ zat zs i = z := by
  obtain ⟨i, hi, e⟩ := List.mem_iff_getElem.1 h
  refine ⟨i, hi, ?_⟩
  have := zat_get hi
  rw [List.getElem?_eq_getElem hi] at this
  exact (Option.some.inj this).symm.trans e
theorem itL_bd (F : Nat → Bool) (k i : Nat) (h : i < (itL F k).length) : 0 ≤ zat (itL F k) i ∧ zat (itL F k) i < k := by
  obtain ⟨m, h1, _, h3⟩ := (itL_mem F _ k).1 (zat_mem h)
  omega
theorem itL_wf (F : Nat → Bool) (k : Nat) (hk : k ≤ 128) : ∀ i, i < (itL F k).length → (Lit.int .i64 (zat (itL F k) i)).wf = true := fun i hi => by
  have := itL_bd F k i hi
  exact WalkArith.wf_i64 (by omega)
/-- the numbers so far, in the loop -/
def RIt (F : Nat → Bool) (k : Nat) (v : Value) (X0 wr : World) : Prop := wr.ownsRow X0.heap.size 3 1 v (itL F k).length ((itL F k).map (Value.int .i64)) ∧ Below X0.heap.size X0 wr
set_option maxRecDepth 100000 in
set_option maxHeartbeats 1000000 in
theorem items_any (F : Nat → Bool) (w : World) :
    Calls Tryd.prog 31 #[setV F] w fun e w' => ∃ A c, e = .returned (.slice A (itL F 128).length c) ∧ RdI w' .i64 A (itL F 128) ∧ Below w.heap.size w w' := by
  obtain ⟨i0, hi, hz0, hz1, hz2⟩ := info_parts mkInfo
  have RS := row_set F
  have LEN := Lib.hid (itL_len F)
  have HZ := zc_run
  have HC := zc_cells
  unfold setV at RS ⊢
  obtain ⟨x, hX⟩ : ∃ x, wordX F = x := ⟨_, rfl⟩
  obtain ⟨y, hY⟩ : ∃ y, wordY F = y := ⟨_, rfl⟩
  rw [hX, hY] at RS ⊢
  have RSh := Lib.hid RS
  clear hX hY RS
  go_enter Tryd.func31, Tryd.ntmps31
  go_wp2_with (first
    | (go_at_call 42; refine (RSh.out _).mono ?_; rintro e w2 ⟨rfl, hb2⟩; have B2 := Lib.hid (one_blk hb2).2.2; clear hb2)
    | (refine wpList_store_row rfl 76 (.tmp 3) (.tmp 7) rfl w2.heap.size (rowC F 128) rfl rfl 76 zc (heap_alloc_last _ _) (by rw [rowC_size]; exact info59) (by rw [rowC_size, zsize]) (rowC_all _ _) ?_))
  have HB : Blk ((w2.alloc (.cells zc 76)).setRow w2.heap.size (rowC F 128)) w2.heap.size 76 (rowC F 128) := setRow_heap _ _ _ _ _ _ (heap_alloc_last _ _)
  have BE : Below w.heap.size w ((w2.alloc (.cells zc 76)).setRow w2.heap.size (rowC F 128)) := below_setRow (B2.out.alloc B2.out.size _) B2.out.size _
  obtain ⟨X0, hX0⟩ : ∃ X, (w2.alloc (.cells zc 76)).setRow w2.heap.size (rowC F 128) = X := ⟨_, rfl⟩
  rw [hX0] at HB BE ⊢
  obtain ⟨g, hg⟩ : ∃ g, w2.heap.size = g := ⟨_, rfl⟩
  rw [hg] at HB ⊢
  have HBh := Lib.hid HB
  have BEh := Lib.hid BE
  clear hX0 hg HB BE B2 HZ HC
  go_loopg [4, 5] 128 (fun gh v i wr => ∃ k : Nat, k ≤ 128 ∧ gh = 128 - k ∧ i = .int .i64 k ∧ RIt F k v X0 wr)
  case atStart => exact ⟨0, by omega, rfl, rfl, World.ownsRow_nil _ _ _ _, Below.refl _ _⟩
  case round =>
    obtain ⟨k, hk, rfl, rfl, hown, hb⟩ := hrel
    obtain ⟨vA, vc, hv⟩ := mkSlice hown
    subst hv
    have hm := LEN.out k
    by_cases h : k < 128
    · have S0 := (HBh.out.next hb).cell k
      rw [rowC_get _ _ _ h] at S0
      have hkI : (k : Int) < 128 := by omega
      cases hF : F k
      · have E : Hid (RIt F (k + 1) (.slice vA (itL F k).length vc) X0 wr) := Lib.hid (by unfold RIt; rw [itL_no hF]; exact ⟨hown, hb⟩)
        simp only [hF, Bool.and_false] at S0
        clear hF hown
        go_wp2_with fail
        go_roundg (128 - (k + 1))
        case measure => omega
        case rel => exact ⟨k + 1, by omega, rfl, by go_num, E.out⟩
      · have E : Hid (∀ v' w1, w1.ownsRow X0.heap.size 3 1 v' ((itL F k).length + 1) ((itL F k).map (Value.int .i64) ++ [.int .i64 (k : Int)]) → Below X0.heap.size X0 w1 → RIt F (k + 1) v' X0 w1) := Lib.hid fun v' w1 h1 h2 => by
          unfold RIt; rw [itL_yes hF]
          simp only [List.length_append, List.length_singleton, List.map_append, List.map_cons, List.map_nil]
          exact ⟨h1, h2⟩
        simp only [hF, h, decide_true, Bool.and_true] at S0
        obtain ⟨m, hme⟩ : ∃ m, (itL F k).length = m := ⟨_, rfl⟩
        rw [hme] at hown hm E ⊢
        clear hF hme
        go_wp2_with (at_builtin; refine wpList_append_own _ rfl _ _ 48 rfl X0.heap.size 3 i0 (.int .i64 0) 1 8 Tryd.underlying48 hi hz0 hz1 hz2 rfl (by decide) _ _ _ rfl (hown.alloc _) ⟨_, 0, none⟩ 1 1 [.int .i64 (k : Int)] rfl rfl one_newR (by intro u hu; simp at hu; subst hu; rfl) (by unfold maxLen; omega) (by omega) (by have := hb.size; simp; omega) ?_; intro v' w1 hown' hgrow _)
        have hb1 : Below X0.heap.size X0 w1 := by
          refine (hb.alloc hb.size _).grown hgrow (by have := hb.size; simp; omega) (fun g hg => ?_)
          first | exact ownR_ge hown hg | exact ownR_ge hown hg.symm
        have HR := E.out v' w1 hown' hb1
        clear hown' hgrow E
        go_wp2_with fail
        go_roundg (128 - (k + 1))
        case measure => omega
        case rel => exact ⟨k + 1, by omega, rfl, by go_num, HR⟩
    · obtain rfl : k = 128 := by omega
      obtain ⟨B, cc, hv, hR⟩ := ownR_rd hown (itL_wf F 128 (Nat.le_refl _))
      cases hv
      have BW := BEh.out.trans (hb.mono BEh.out.size)
      go_wp2_with fail
      go_ret
      exact ⟨_, _, rfl, hR, BW⟩
end Go.Proofs.YtbjcigkakeffmaaDoor


namespace Go.Proofs.YtbjcigkakeffmaaDoor
open Go.RowKit
set_option linter.unusedSimpArgs false
set_option linter.unusedVariables false
/-- a row stored, at a step of a region that draws -/
theorem step_row {P : Program} {ops : Array Oper} {o : Oper} {a : Act} {w : World} {K : Act → World → Prop} {Q : Exit → Act → World → Prop} {E : Prop} (hgd : o.guard = none) (ty : TypeId) (x y : Operand) (ho : o.op = .store ty x y)
    (g : Nat) (cells : Array Value) (hx : a.eval x = .pointer (some ⟨g, 0, none⟩)) (hy : a.eval y = .agg cells)
    (t : TypeId) (old : Array Value) (hg : w.heap[g]? = some (.cells old t (0, 0))) (hi : (P.info? ty).map (·.size) = some cells.size)
    (hold : old.size = cells.size) (h1 : cells.all (·.oneCell') = true)
    (h : K (a.put o.dst undef) (w.setRow g cells)) :
    if Region.wanted o (yielded ops a.tmps) = true then Oper.wp P o a w K Q else E := by
  have hw : Region.wanted o (yielded ops a.tmps) = true := by simp [Region.wanted, hgd]
  rw [if_pos hw]
  exact wp_store_row ty x y ho g cells hx hy t old hg hi hold h1 h
end Go.Proofs.YtbjcigkakeffmaaDoor


namespace Go.Proofs.YtbjcigkakeffmaaDoor
open Go.RowKit
set_option linter.unusedSimpArgs false
set_option linter.unusedVariables false
theorem Blk.farRow {w : World} {g g' : Nat} {t : TypeId} {cs rs : Array Value} (h : Blk w g t cs) (hg : g ≠ g') : Blk (w.setRow g' rs) g t cs := (setRow_other w g' g rs hg).trans h
/-- the row, in which the first k are told -/
def mixB (R F : Nat → Bool) (k j : Nat) : Bool := if j < k then R j else F j
theorem mixB_zero (R F : Nat → Bool) : mixB R F 0 = F := by funext j; simp [mixB]
theorem mixB_full (R F : Nat → Bool) : rowC (mixB R F 128) 128 = rowC R 128 := rowC_congr fun j hj => by simp [mixB, hj]
theorem mixB_set (R F : Nat → Bool) (k : Nat) (hk : k < 128) : (rowC (mixB R F k) 128).setIfInBounds k (.bool (R k)) = rowC (mixB R F (k + 1)) 128 := by
  apply Array.ext
  · simp [rowC]
  · intro i h1 h2
    have hi : i < 128 := by simpa [rowC] using h2
    rw [Array.getElem_setIfInBounds (by simpa [rowC] using hi)]
    split
    · rename_i e; subst e; simp [rowC, mixB, hi]
    · rename_i e
      simp only [rowC, List.getElem_toArray, List.getElem_map, List.getElem_range, mixB]
      by_cases h : i < k
      · rw [if_pos h, if_pos (by omega)]
      · rw [if_neg h, if_neg (by omega)]
structure RrW (w X : World) (g : Nat) (cs : Array Value) : Prop where
  r : Blk X (w.heap.size + 1) 40 #[.int .u64 0, .int .u64 0]
  s : Blk X g 76 cs
  e : Below w.heap.size w X
  n : w.heap.size + 1 < g
/-- what is in F from a on, ahead of b -/
def cutF (F : Nat → Bool) (a b : Int) (j : Nat) : Bool := F j && decide (a ≤ (j : Int)) && decide ((j : Int) < b)
set_option maxRecDepth 100000 in
set_option maxHeartbeats 1000000 in
theorem rrange_any (F : Nat → Bool) (a b : Int) (w : World) :
    Calls Tryd.prog 20 #[setV F, .int .i64 a, .int .i64 b] w fun e w' => e = .returned (setV (cutF F a b)) ∧ Below w.heap.size w w' := by
  have RF := row_set F
  have MK := make_set (cutF F a b)
  have HZ := zc_run
  have HC := zc_cells
  unfold setV at RF MK ⊢
  obtain ⟨x, hX⟩ : ∃ x, wordX F = x := ⟨_, rfl⟩
  obtain ⟨y, hY⟩ : ∃ y, wordY F = y := ⟨_, rfl⟩
  obtain ⟨x', hX'⟩ : ∃ x, wordX (cutF F a b) = x := ⟨_, rfl⟩
  obtain ⟨y', hY'⟩ : ∃ y, wordY (cutF F a b) = y := ⟨_, rfl⟩
  rw [hX, hY] at RF ⊢
  rw [hX', hY'] at MK ⊢
  have RFh := Lib.hid RF
  have MKh := Lib.hid MK
  clear hX hY hX' hY' RF MK
  go_enter Tryd.func20, Tryd.ntmps20
  go_wp2_with (first
    | (go_at_call 42; refine (RFh.out _).mono ?_; rintro e w2 ⟨rfl, hb2⟩; obtain ⟨_, B2, B3, B4⟩ := two_blk hb2; have H2 := Lib.hid (And.intro B2 (And.intro B3 B4)); clear hb2 B2 B3 B4)
    | (refine wpList_store_row rfl 76 (.tmp 7) (.tmp 10) rfl w2.heap.size (rowC F 128) rfl rfl 76 zc (heap_alloc_last _ _) (by rw [rowC_size]; exact info59) (by rw [rowC_size, zsize]) (rowC_all _ _) ?_))
  have H0 : RrW w ((w2.alloc (.cells zc 76)).setRow w2.heap.size (rowC F 128)) w2.heap.size (rowC F 128) := ⟨(H2.out.1.alloc _).farRow (by have := H2.out.2.1; omega), setRow_heap _ _ _ _ _ _ (heap_alloc_last _ _), below_setRow (H2.out.2.2.alloc H2.out.2.2.size _) H2.out.2.2.size _, H2.out.2.1⟩
  obtain ⟨X0, hX0⟩ : ∃ X, (w2.alloc (.cells zc 76)).setRow w2.heap.size (rowC F 128) = X := ⟨_, rfl⟩
  rw [hX0] at H0 ⊢
  obtain ⟨g, hg⟩ : ∃ g, w2.heap.size = g := ⟨_, rfl⟩
  rw [hg] at H0 ⊢
  have H1 := Lib.hid H0
  clear hX0 hg H0 H2 HZ HC
  go_loopg [8] 128 (fun gh i wr => ∃ k : Nat, k ≤ 128 ∧ gh = 128 - k ∧ i = .int .i64 k ∧ Hid (RrW w wr g (rowC (mixB (cutF F a b) F k) 128)))
  case atStart => exact ⟨0, by omega, rfl, rfl, Lib.hid (by rw [mixB_zero]; exact H1.out)⟩
  case round =>
    obtain ⟨k, hk, rfl, rfl, HO⟩ := hrel
    clear H1
    by_cases h : k < 128
    · have hkI : (k : Int) < 128 := by omega
      have S0 := HO.out.s.cell k
      rw [rowC_get _ _ _ h] at S0
      have S1 := HO.out.s.frozen k
      have E : Hid (∀ v, v = cutF F a b k → RrW w (wr.setCell ⟨g, k, none⟩ (.bool v)) g (rowC (mixB (cutF F a b) F (k + 1)) 128)) := Lib.hid fun v hv => by
        subst hv
        exact ⟨HO.out.r.far (by show w.heap.size + 1 ≠ g; have := HO.out.n; omega) _, by rw [← mixB_set _ _ _ h]; exact HO.out.s.set k _, HO.out.e.setCell (by show w.heap.size ≤ g; have := HO.out.n; omega) _, HO.out.n⟩
      have eF : (decide (k < 128) && mixB (cutF F a b) F k k) = F k := by simp [h, mixB]
      rw [eF] at S0
      have C : (F k = false ∧ cutF F a b k = false) ∨ (F k = true ∧ (k : Int) < a ∧ cutF F a b k = false) ∨ (F k = true ∧ a ≤ (k : Int) ∧ b ≤ (k : Int) ∧ cutF F a b k = false) ∨ (F k = true ∧ a ≤ (k : Int) ∧ (k : Int) < b ∧ cutF F a b k = true) := by
        unfold cutF
        cases F k
        · exact .inl ⟨rfl, rfl⟩
        · by_cases h1 : a ≤ (k : Int)
          · by_cases h2 : (k : Int) < b
            · exact .inr (.inr (.inr ⟨rfl, h1, h2, by simp [h1, h2]⟩))
            · exact .inr (.inr (.inl ⟨rfl, h1, by omega, by simp [h2]⟩))
          · exact .inr (.inl ⟨rfl, by omega, by simp [h1]⟩)
      rcases C with ⟨f0, c⟩ | ⟨f0, f1, c⟩ | ⟨f0, f1, f2, c⟩ | ⟨f0, f1, f2, c⟩
      all_goals (
        rw [f0] at S0
        rw [c] at E
        clear f0 c eF
        go_wp2_with fail
        go_roundg (128 - (k + 1))
        case measure => omega
        case rel => exact ⟨k + 1, by omega, rfl, by go_num, Lib.hid (E.out _ (by first | rfl | (simp; omega)))⟩)
    · obtain rfl : k = 128 := by omega
      have HF := Lib.hid (show RrW w wr g (rowC (cutF F a b) 128) by rw [← mixB_full]; exact HO.out)
      have HS := Lib.hid (show wr.heap[g]? = some (.cells (rowC (cutF F a b) 128) 76) from HF.out.s)
      clear HO
      go_wp2_with (first
        | (refine wpList_load_row rfl 76 (.tmp 7) rfl g rfl 76 (rowC (cutF F a b) 128) (0, 0) _ HS.out Tryd.underlying76 rfl (by rw [rowC_size]; exact info59) ?_)
        | (go_at_call 43; refine (MKh.out _).mono ?_; rintro e w3 ⟨rfl, hb3⟩; obtain ⟨p0, p1, q0, q1⟩ := (HF.out.r.next hb3).two; have B5 := Lib.hid (HF.out.e.trans (hb3.mono HF.out.e.size)); clear hb3))
      refine bodyPost_ret (v := .agg #[.int .u64 x', .int .u64 y']) (by simp [results, Tryd.results20, go_sem, *]) rfl ⟨rfl, (B5.out.setCell (by show w.heap.size ≤ w.heap.size + 1; omega) _).setCell (by show w.heap.size ≤ w.heap.size + 1; omega) _⟩
end Go.Proofs.YtbjcigkakeffmaaDoor

