/- Contracts of the document's sets: rows of 128, and back. -/
import Derived.Test.YteebeiflipfbkaaDoorRows
import Derived.Test.YteebeiflipfbkaaDoorBitsMath
import Derived.WalkKit
import Derived.Lib.Hide
import Derived.Laws.CopyOwn
import Derived.Deep.WholeRow
import Derived.WalkSpells
import Derived.WalkLawsBesides
namespace Go.Proofs.YteebeiflipfbkaaDoor
open Go.RowKit
set_option linter.unusedSimpArgs false
set_option linter.unusedVariables false
/-- a row of 128 as it is made -/
def zc : Array Value := Array.replicate 128 (.bool false)
theorem zc_run (w : World) : (zeroValue 45).run Tryd.prog w = .ok (.agg zc) w := by kernel_rfl
theorem zero128 (f : Nat → Bool) : zc = rowC f 0 := by
  unfold zc
  apply Array.ext
  · simp [rowC]
  · intro i h1 h2; simp [rowC]
def RowW (x y k : Nat) (w wr : World) : Prop := wr = ((w.alloc (.cells #[.int .u64 (wX x k), .int .u64 (wY y k)] 38)).alloc (.cells zc 45)).alloc (.cells (rowC (mem x y) k) 45)
theorem rowW_facts {x y k : Nat} {w wr : World} (h : RowW x y k w wr) : wr.heap[w.heap.size + 1 + 1]? = some (.cells (rowC (mem x y) k) 45) ∧
    wr.heap[w.heap.size + 1]? = some (.cells zc 45) ∧ Below w.heap.size w wr := by
  subst h
  refine ⟨?_, ?_, ((((Below.refl _ _).alloc (Nat.le_refl _) _).alloc (by simp) _).alloc (by simp; omega) _)⟩
  · have := heap_alloc_last ((w.alloc (.cells #[.int .u64 (wX x k), .int .u64 (wY y k)] 38)).alloc (.cells zc 45)) (.cells (rowC (mem x y) k) 45)
    simpa using this
  · rw [Below.heap_alloc _ _ _ (by simp)]
    have := heap_alloc_last (w.alloc (.cells #[.int .u64 (wX x k), .int .u64 (wY y k)] 38)) (.cells zc 45)
    simpa using this
theorem rowC_all (f : Nat → Bool) (k : Nat) : (rowC f k).all (·.oneCell') = true := by
  rw [Array.all_eq_true_iff_forall_mem]
  intro v hv
  simp only [rowC, List.mem_toArray, List.mem_map] at hv
  obtain ⟨j, _, rfl⟩ := hv
  rfl
theorem info59 : (Tryd.prog.info? 45).map (·.size) = some 128 := by kernel_rfl
theorem zsize : zc.size = 128 := by rw [zero128 fun _ => false, rowC_size]
theorem zc_cells : (Value.agg zc).cells = zc := rfl
set_option maxRecDepth 100000 in
set_option maxHeartbeats 400000 in
theorem row_any (x y : Nat) (w : World) (hx : x < 18446744073709551616) (hy : y < 18446744073709551616) :
    Calls Tryd.prog 11 #[.agg #[.int .u64 x, .int .u64 y]] w fun e w' => e = .returned (.agg (rowC (mem x y) 128)) ∧ Below w.heap.size w w' := by
  have HZ := zc_run
  have HC := zc_cells
  go_enter Tryd.func11, Tryd.ntmps11
  go_wp2
  go_loopw [4] (fun i wr => ∃ k : Nat, k ≤ 128 ∧ i = .int .i64 k ∧ RowW x y k w wr) (fun i _ => (128 - intOf i).toNat)
  case atStart => exact ⟨0, by omega, rfl, by unfold RowW; rw [wX_zero, wY_zero, ← zero128]⟩
  case round =>
    obtain ⟨k, hk, rfl, hw⟩ := hrel
    have X1 := wX_lt k hx
    have Y1 := wY_lt k hy
    by_cases hk' : k < 128
    · unfold RowW at hw
      subst hw
      have g := rowC_here (mem x y) k hk'
      by_cases h64 : k < 64
      · have e : k / 64 = 0 := by omega
        go_wp2
        go_roundw
        case rel =>
          refine ⟨k + 1, by omega, by go_num, ?_⟩
          unfold RowW
          rw [wX_low _ _ h64, wY_low _ _ h64, ← rowC_set _ _ _ hk' (mem_low x y k h64), Int.natCast_ediv]
          rfl
        case measure => simp [intOf]; omega
      · have e : k / 64 = 1 := by omega
        go_wp2
        go_roundw
        case rel =>
          refine ⟨k + 1, by omega, by go_num, ?_⟩
          unfold RowW
          rw [wX_high _ _ h64, wY_high _ _ h64, ← rowC_set _ _ _ hk' (mem_high x y k h64), Int.natCast_ediv]
          rfl
        case measure => simp [intOf]; omega
    · obtain rfl : k = 128 := by omega
      obtain ⟨h2, h1, hb⟩ := rowW_facts hw
      clear hw
      have H2 := Lib.hid h2
      have H1 := Lib.hid h1
      clear h1 h2
      go_wp2_with (first
        | (refine wpList_load_row rfl 45 (.tmp 3) rfl (w.heap.size + 1 + 1) rfl 45 (rowC (mem x y) 128) (0, 0) _ H2.out Tryd.underlying45 rfl (by rw [rowC_size]; exact info59) ?_)
        | (refine wpList_store_row rfl 45 (.tmp 2) (.tmp 25) rfl (w.heap.size + 1) (rowC (mem x y) 128) rfl rfl 45 zc H1.out (by rw [rowC_size]; exact info59) (by rw [rowC_size, zsize]) (rowC_all _ _) ?_))
      refine bodyPost_ret (results_cell_row rfl _ _ (w.heap.size + 1) 45 (rowC (mem x y) 128) (0, 0) _ rfl (setRow_heap _ _ _ _ _ _ H1.out) Tryd.underlying45 rfl (by rw [rowC_size]; exact info59)) rfl ⟨rfl, below_setRow hb (by omega) _⟩

def MakeW (f : Nat → Bool) (z : Int) (w wr : World) : Prop := wr = ((w.alloc (.cells (rowC f 128) 45)).alloc (.cells #[.int .u64 0, .int .u64 0] 38)).alloc (.cells #[.int .u64 (mX f z), .int .u64 (mY f z)] 38)
set_option maxRecDepth 100000 in
set_option maxHeartbeats 1000000 in
theorem make_any (f : Nat → Bool) (w : World) :
    Calls Tryd.prog 12 #[.agg (rowC f 128)] w fun e w' => e = .returned (.agg #[.int .u64 (mX f (-1)), .int .u64 (mY f (-1))]) ∧ Below w.heap.size w w' := by
  go_enter Tryd.func12, Tryd.ntmps12
  go_wp2
  go_loopw [4] (fun i wr => ∃ z : Int, -1 ≤ z ∧ z ≤ 127 ∧ i = .int .i64 z ∧ MakeW f z w wr) (fun i _ => (intOf i + 1).toNat)
  case atStart => exact ⟨127, by omega, by omega, rfl, rfl⟩
  case round =>
    obtain ⟨z, hz, hz', rfl, hw⟩ := hrel
    unfold MakeW at hw
    subst hw
    by_cases hk' : 0 ≤ z
    · obtain ⟨n, rfl⟩ := Int.eq_ofNat_of_zero_le hk'
      have hn : n < 128 := by omega
      have X1 := mX_bd f n
      by_cases h64 : n < 64
      · have e : n / 64 = 0 := by omega
        cases hb : f n
        · have g : (rowC f 128)[n]? = some (.bool false) := by rw [rowC_get f 128 n hn]; simp [hn, hb]
          have B := Lib.hid hb
          clear hb
          go_wp2
          go_roundw
          case rel =>
            refine ⟨(n : Int) - 1, by omega, by omega, rfl, ?_⟩
            unfold MakeW
            rw [mX_low f n h64, mY_low f n h64, B.out]
            simp only [Bool.toNat_false, Nat.add_zero, Int.natCast_add, Int.natCast_mul]
            rfl
          case measure => simp [intOf]
        · have g : (rowC f 128)[n]? = some (.bool true) := by rw [rowC_get f 128 n hn]; simp [hn, hb]
          have B := Lib.hid hb
          clear hb
          go_wp2
          go_roundw
          case rel =>
            refine ⟨(n : Int) - 1, by omega, by omega, rfl, ?_⟩
            unfold MakeW
            rw [mX_low f n h64, mY_low f n h64, B.out]
            simp only [Bool.toNat_true, Nat.add_zero, Int.natCast_add, Int.natCast_mul]
            rfl
          case measure => simp [intOf]
      · have e : n / 64 = 1 := by omega
        have Y1 := mY_bd f n h64
        cases hb : f n
        · have g : (rowC f 128)[n]? = some (.bool false) := by rw [rowC_get f 128 n hn]; simp [hn, hb]
          have B := Lib.hid hb
          clear hb
          go_wp2
          go_roundw
          case rel =>
            refine ⟨(n : Int) - 1, by omega, by omega, rfl, ?_⟩
            unfold MakeW
            rw [mX_high f n h64, mY_high f n h64 hn, B.out]
            simp only [Bool.toNat_false, Nat.add_zero, Int.natCast_add, Int.natCast_mul]
            rfl
          case measure => simp [intOf]
        · have g : (rowC f 128)[n]? = some (.bool true) := by rw [rowC_get f 128 n hn]; simp [hn, hb]
          have B := Lib.hid hb
          clear hb
          go_wp2
          go_roundw
          case rel =>
            refine ⟨(n : Int) - 1, by omega, by omega, rfl, ?_⟩
            unfold MakeW
            rw [mX_high f n h64, mY_high f n h64 hn, B.out]
            simp only [Bool.toNat_true, Nat.add_zero, Int.natCast_add, Int.natCast_mul]
            rfl
          case measure => simp [intOf]
    · obtain rfl : z = -1 := by omega
      go_wp2
      refine bodyPost_ret (v := .agg #[.int .u64 (mX f (-1)), .int .u64 (mY f (-1))]) ?_ rfl ⟨rfl, ?_⟩
      · simp [results, Tryd.results12, go_sem]
      · exact (((Below.refl _ _).alloc (Nat.le_refl _) _).alloc (by simp) _).alloc (by simp; omega) _

theorem row_set (F : Nat → Bool) (w : World) :
    Calls Tryd.prog 11 #[setV F] w fun e w' => e = .returned (.agg (rowC F 128)) ∧ Below w.heap.size w w' := by
  have := row_any (wordX F) (wordY F) w (wordX_lt F) (wordY_lt F)
  rwa [rowC_congr (mem_word F)] at this
theorem make_set (F : Nat → Bool) (w : World) :
    Calls Tryd.prog 12 #[.agg (rowC F 128)] w fun e w' => e = .returned (setV F) ∧ Below w.heap.size w w' := make_any F w
theorem bcell {W w1 : World} (hb : Below W.heap.size W w1) : (∀ b o, b < W.heap.size → w1.cell? ⟨b, o, none⟩ = W.cell? ⟨b, o, none⟩) ∧ (∀ b o, b < W.heap.size → w1.frozen? ⟨b, o, none⟩ = W.frozen? ⟨b, o, none⟩) :=
  ⟨fun b o h => hb.cell (p := ⟨b, o, none⟩) h, fun b o h => hb.frozen (p := ⟨b, o, none⟩) h⟩
end Go.Proofs.YteebeiflipfbkaaDoor
