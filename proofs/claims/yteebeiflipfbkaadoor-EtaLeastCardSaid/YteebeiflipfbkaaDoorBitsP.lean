/- Contracts of the program's sets: lowest, And, Or, Sub, Below, From, Range at any numbers. -/
import Derived.Test.YteebeiflipfbkaaDoorRows
import Derived.Test.YteebeiflipfbkaaDoorRowKit
import Derived.Test.YteebeiflipfbkaaDoorBlocks
import Derived.Test.YteebeiflipfbkaaDoorBitsMath
import Derived.Test.YteebeiflipfbkaaDoorBitsA2
import Derived.Test.YteebeiflipfbkaaDoorBitsD
import Derived.Test.YteebeiflipfbkaaDoorBitsJ
import Derived.Test.YteebeiflipfbkaaDoorBitsK
import Derived.WalkKit
import Derived.IntWalk
import Derived.Lib.Hide
import Derived.WalkSpells
import Derived.WalkLawsBesides
import Derived.Laws.CopyOwn
import Derived.Deep.QuietTactic
import Derived.Deep.RegionHeld3
import Derived.BigQuiet
import Derived.BigRegion
namespace Go.Proofs.YteebeiflipfbkaaDoor
open Go.RowKit
set_option linter.unusedSimpArgs false
set_option linter.unusedVariables false
theorem wrap_low (k : Nat) (hk : k ≤ 64) : IntKind.u64.wrap (IntKind.u64.wrap (2 ^ k) - 1) = ((2 ^ k - 1 : Nat) : Int) := by
  rcases Nat.lt_or_ge k 64 with h | h
  · rw [wrap_pow h, IntKind.wrap_u64]
    have := pow_lt64 h
    have h0 : 0 < 2 ^ k := Nat.pow_pos (by omega)
    omega
  · obtain rfl : k = 64 := by omega
    decide +kernel
theorem low_lt (k : Nat) (hk : k ≤ 64) : 2 ^ k - 1 < 18446744073709551616 := by
  have h1 : 2 ^ k ≤ 2 ^ 64 := Nat.pow_le_pow_right (by omega) hk
  have : (2 : Nat) ^ 64 = 18446744073709551616 := by decide
  omega
/-- all numbers below n -/
def lowF (n : Int) (j : Nat) : Bool := decide ((j : Int) < n)
theorem set_low (n : Int) : Value.agg #[.int .u64 ((2 ^ (min (max 0 (min n 128)) 64).toNat - 1 : Nat) : Int), .int .u64 ((2 ^ (max 0 (min n 128) - min (max 0 (min n 128)) 64).toNat - 1 : Nat) : Int)] = setV (lowF n) := by
  refine setV_of (low_lt _ (by omega)) (low_lt _ (by omega)) (fun j hj => ?_) (fun j hj => ?_)
  · rw [Nat.testBit_two_pow_sub_one]
    unfold lowF
    rw [decide_eq_decide]; omega
  · rw [Nat.testBit_two_pow_sub_one]
    unfold lowF
    rw [decide_eq_decide]; omega
set_option maxRecDepth 100000 in
set_option maxHeartbeats 1000000 in
theorem lowest_any (n : Int) (w : World) : Calls Tryd.prog 42 #[.int .i64 n] w fun e w' => e = .returned (setV (lowF n)) ∧ Below w.heap.size w w' := by
  rw [← set_low n, ← wrap_low _ (by omega), ← wrap_low _ (by omega)]
  rcases (show n ≤ 0 ∨ (0 < n ∧ n ≤ 64) ∨ (64 < n ∧ n ≤ 128) ∨ 128 < n by omega) with h | ⟨h, h'⟩ | ⟨h, h'⟩ | h
  · have h1 : (min (max 0 (min n 128)) 64).toNat = 0 := by omega
    have h2 : (max 0 (min n 128) - min (max 0 (min n 128)) 64).toNat = 0 := by omega
    rw [h1, h2]
    have H1 := Lib.hid h1
    have H2 := Lib.hid h2
    clear h1 h2
    go_enter Tryd.func42, Tryd.ntmps42
    go_wp2_with fail
    all_goals go_region
    all_goals go_wp2_with fail
    all_goals (
      refine bodyPost_ret (v := .agg #[.int .u64 (IntKind.u64.wrap (IntKind.u64.wrap (2 ^ (0)) - 1)), .int .u64 (IntKind.u64.wrap (IntKind.u64.wrap (2 ^ (0)) - 1))]) (by
        first
          | (simp [results, Tryd.results42, go_sem]; done)
          | (simp [results, Tryd.results42, go_sem, H1.out, H2.out]; done)
          | (have h1 := H1.out; have h2 := H2.out; simp [results, Tryd.results42, go_sem]; constructor <;> first | (rw [h1]; done) | (rw [h2]; done) | (rw [h1]; decide +kernel) | (rw [h2]; decide +kernel))
          | (simp [results, Tryd.results42, go_sem, *]; done)
          | (simp [results, Tryd.results42, go_sem]; constructor <;> first | rfl | decide +kernel | (congr 3; omega) | (congr 4; omega) | (congr 5; omega))) rfl ⟨rfl, ?_⟩
      exact ((Below.refl w.heap.size w).alloc (Nat.le_refl _) _).drew)
  · have h1 : (min (max 0 (min n 128)) 64).toNat = n.toNat := by omega
    have h2 : (max 0 (min n 128) - min (max 0 (min n 128)) 64).toNat = 0 := by omega
    rw [h1, h2]
    have H1 := Lib.hid h1
    have H2 := Lib.hid h2
    clear h1 h2
    go_enter Tryd.func42, Tryd.ntmps42
    go_wp2_with fail
    all_goals go_region
    all_goals go_wp2_with fail
    all_goals (
      refine bodyPost_ret (v := .agg #[.int .u64 (IntKind.u64.wrap (IntKind.u64.wrap (2 ^ (n.toNat)) - 1)), .int .u64 (IntKind.u64.wrap (IntKind.u64.wrap (2 ^ (0)) - 1))]) (by
        first
          | (simp [results, Tryd.results42, go_sem]; done)
          | (simp [results, Tryd.results42, go_sem, H1.out, H2.out]; done)
          | (have h1 := H1.out; have h2 := H2.out; simp [results, Tryd.results42, go_sem]; constructor <;> first | (rw [h1]; done) | (rw [h2]; done) | (rw [h1]; decide +kernel) | (rw [h2]; decide +kernel))
          | (simp [results, Tryd.results42, go_sem, *]; done)
          | (simp [results, Tryd.results42, go_sem]; constructor <;> first | rfl | decide +kernel | (congr 3; omega) | (congr 4; omega) | (congr 5; omega))) rfl ⟨rfl, ?_⟩
      exact ((Below.refl w.heap.size w).alloc (Nat.le_refl _) _).drew)
  · have h1 : (min (max 0 (min n 128)) 64).toNat = 64 := by omega
    have h2 : (max 0 (min n 128) - min (max 0 (min n 128)) 64).toNat = (n - 64).toNat := by omega
    rw [h1, h2]
    have H1 := Lib.hid h1
    have H2 := Lib.hid h2
    clear h1 h2
    go_enter Tryd.func42, Tryd.ntmps42
    go_wp2_with fail
    all_goals go_region
    all_goals go_wp2_with fail
    all_goals (
      refine bodyPost_ret (v := .agg #[.int .u64 (IntKind.u64.wrap (IntKind.u64.wrap (2 ^ (64)) - 1)), .int .u64 (IntKind.u64.wrap (IntKind.u64.wrap (2 ^ ((n - 64).toNat)) - 1))]) (by
        first
          | (simp [results, Tryd.results42, go_sem]; done)
          | (simp [results, Tryd.results42, go_sem, H1.out, H2.out]; done)
          | (have h1 := H1.out; have h2 := H2.out; simp [results, Tryd.results42, go_sem]; constructor <;> first | (rw [h1]; done) | (rw [h2]; done) | (rw [h1]; decide +kernel) | (rw [h2]; decide +kernel))
          | (simp [results, Tryd.results42, go_sem, *]; done)
          | (simp [results, Tryd.results42, go_sem]; constructor <;> first | rfl | decide +kernel | (congr 3; omega) | (congr 4; omega) | (congr 5; omega))) rfl ⟨rfl, ?_⟩
      exact ((Below.refl w.heap.size w).alloc (Nat.le_refl _) _).drew)
  · have h1 : (min (max 0 (min n 128)) 64).toNat = 64 := by omega
    have h2 : (max 0 (min n 128) - min (max 0 (min n 128)) 64).toNat = 64 := by omega
    rw [h1, h2]
    have H1 := Lib.hid h1
    have H2 := Lib.hid h2
    clear h1 h2
    go_enter Tryd.func42, Tryd.ntmps42
    go_wp2_with fail
    all_goals go_region
    all_goals go_wp2_with fail
    all_goals (
      refine bodyPost_ret (v := .agg #[.int .u64 (IntKind.u64.wrap (IntKind.u64.wrap (2 ^ (64)) - 1)), .int .u64 (IntKind.u64.wrap (IntKind.u64.wrap (2 ^ (64)) - 1))]) (by
        first
          | (simp [results, Tryd.results42, go_sem]; done)
          | (simp [results, Tryd.results42, go_sem, H1.out, H2.out]; done)
          | (have h1 := H1.out; have h2 := H2.out; simp [results, Tryd.results42, go_sem]; constructor <;> first | (rw [h1]; done) | (rw [h2]; done) | (rw [h1]; decide +kernel) | (rw [h2]; decide +kernel))
          | (simp [results, Tryd.results42, go_sem, *]; done)
          | (simp [results, Tryd.results42, go_sem]; constructor <;> first | rfl | decide +kernel | (congr 3; omega) | (congr 4; omega) | (congr 5; omega))) rfl ⟨rfl, ?_⟩
      exact ((Below.refl w.heap.size w).alloc (Nat.le_refl _) _).drew)
theorem and_lt64 {a b : Nat} (ha : a < 18446744073709551616) : a &&& b < 18446744073709551616 := Nat.lt_of_le_of_lt Nat.and_le_left ha
theorem and_set (F G : Nat → Bool) (w : World) : Calls Tryd.prog 43 #[setV F, setV G] w fun e w' => e = .returned (setV fun j => F j && G j) ∧ Below w.heap.size w w' := by
  have h := and_any (wordX F) (wordY F) (wordX G) (wordY G) w
  rw [bits_and64 _ _ (wordX_lt F) (wordX_lt G), bits_and64 _ _ (wordY_lt F) (wordY_lt G), setV_of (F := fun j => F j && G j) (and_lt64 (wordX_lt F)) (and_lt64 (wordY_lt F))
    (fun j hj => by rw [Nat.testBit_and, wordX_bit, wordX_bit]; simp [hj]) (fun j hj => by rw [Nat.testBit_and, wordY_bit, wordY_bit]; simp [hj])] at h
  exact h
/-- what is in a and not in b -/
def anN (a b : Nat) : Nat := (BitVec.ofNat 64 a &&& ~~~BitVec.ofNat 64 b).toNat
theorem anN_lt (a b : Nat) : anN a b < 18446744073709551616 := (BitVec.ofNat 64 a &&& ~~~BitVec.ofNat 64 b).isLt
theorem anN_bit (a b j : Nat) (hj : j < 64) : (anN a b).testBit j = (a.testBit j && !b.testBit j) := by
  unfold anN
  rw [BitVec.testBit_toNat, BitVec.getLsbD_and, BitVec.getLsbD_not, BitVec.getLsbD_ofNat, BitVec.getLsbD_ofNat]
  simp [hj]
theorem bits_an64 (a b : Nat) : bits .andNot .u64 (a : Int) (b : Int) = (anN a b : Int) := by
  unfold bits
  show IntKind.u64.wrap ((BitVec.ofInt 64 (a : Int) &&& ~~~BitVec.ofInt 64 (b : Int)).toNat : Int) = _
  rw [bv64, bv64]
  exact wrap_nat64 (anN_lt a b)
theorem sub_set (F G : Nat → Bool) (w : World) : Calls Tryd.prog 41 #[setV F, setV G] w fun e w' => e = .returned (setV fun j => F j && !G j) ∧ Below w.heap.size w w' := by
  have h := sub_any (wordX F) (wordY F) (wordX G) (wordY G) w
  rw [bits_an64, bits_an64, setV_of (F := fun j => F j && !G j) (anN_lt _ _) (anN_lt _ _)
    (fun j hj => by rw [anN_bit _ _ _ hj, wordX_bit, wordX_bit]; simp [hj]) (fun j hj => by rw [anN_bit _ _ _ hj, wordY_bit, wordY_bit]; simp [hj])] at h
  exact h
set_option maxRecDepth 100000 in
set_option maxHeartbeats 1000000 in
theorem from_any (F : Nat → Bool) (n : Int) (w : World) : Calls Tryd.prog 32 #[setV F, .int .i64 n] w fun e w' => e = .returned (setV fun j => F j && !lowF n j) ∧ Below w.heap.size w w' := by
  have SU := sub_set F (lowF n)
  have LO := lowest_any n
  unfold setV at SU LO ⊢
  obtain ⟨x, hX⟩ : ∃ x, wordX F = x := ⟨_, rfl⟩
  obtain ⟨y, hY⟩ : ∃ y, wordY F = y := ⟨_, rfl⟩
  obtain ⟨a, hA⟩ : ∃ x, wordX (lowF n) = x := ⟨_, rfl⟩
  obtain ⟨b, hB⟩ : ∃ x, wordY (lowF n) = x := ⟨_, rfl⟩
  obtain ⟨r, hR⟩ : ∃ x, wordX (fun j => F j && !lowF n j) = x := ⟨_, rfl⟩
  obtain ⟨t, hT⟩ : ∃ x, wordY (fun j => F j && !lowF n j) = x := ⟨_, rfl⟩
  rw [hX, hY, hA, hB, hR, hT] at SU
  rw [hA, hB] at LO
  rw [hX, hY, hR, hT]
  have SUh := Lib.hid SU
  have LOh := Lib.hid LO
  clear SU LO hX hY hA hB hR hT
  go_enter Tryd.func32, Tryd.ntmps32
  go_wp2_with fail
  obtain ⟨B1, B2, _, BE⟩ := two_blk (w := w) (Below.refl _ ((w.alloc (.cells #[.int .u64 x, .int .u64 y] 38)).alloc (.cells #[.int .u64 0, .int .u64 0] 38)))
  obtain ⟨V, hV⟩ : ∃ V, (w.alloc (.cells #[.int .u64 x, .int .u64 y] 38)).alloc (.cells #[.int .u64 0, .int .u64 0] 38) = V := ⟨_, rfl⟩
  rw [hV] at B1 B2 BE ⊢
  obtain ⟨c0, c1, _, _⟩ := B1.two
  have B2h := Lib.hid B2
  have BEh := Lib.hid BE
  clear hV B1 B2 BE
  go_region_held3 (fun W => W.cell? ⟨w.heap.size, 0, none⟩ = some (.int .u64 x) ∧ W.cell? ⟨w.heap.size, 1, none⟩ = some (.int .u64 y))
    (go_keep)
    (first
      | (go_at_call 42; refine (LOh.out V.drew).mono ?_; rintro e w2 ⟨rfl, hb2⟩; have n0 := Lib.hid (bkeep (w := V.drew) hb2 c0); have n1 := Lib.hid (bkeep (w := V.drew) hb2 c1); clear c0 c1; have c0 := n0.out; have c1 := n1.out; have B2i := Lib.hid (Blk.next (w := V.drew) B2h.out hb2); have BEi := Lib.hid (BEh.out.drew.trans (hb2.mono BEh.out.drew.size)))
      | (go_at_call 41; refine (SUh.out w2).mono ?_; rintro e w3 ⟨rfl, hb3⟩; have n2 := Lib.hid (bkeep hb3 c0); have n3 := Lib.hid (bkeep hb3 c1); clear c0 c1; have c0 := n2.out; have c1 := n3.out; obtain ⟨r0, r1, f0, f1⟩ := (B2i.out.next hb3).two; have BEj := Lib.hid (BEi.out.trans (hb3.mono BEi.out.size))))
  go_wp2_with fail
  refine bodyPost_ret (v := .agg #[.int .u64 r, .int .u64 t]) (by simp [results, Tryd.results32, go_sem, *]) rfl ⟨rfl, (BEj.out.setCell (by show w.heap.size ≤ w.heap.size + 1; omega) _).setCell (by show w.heap.size ≤ w.heap.size + 1; omega) _⟩
set_option maxRecDepth 100000 in
set_option maxHeartbeats 1000000 in
theorem below_any (F : Nat → Bool) (n : Int) (w : World) : Calls Tryd.prog 33 #[setV F, .int .i64 n] w fun e w' => e = .returned (setV fun j => F j && lowF n j) ∧ Below w.heap.size w w' := by
  have SU := and_set F (lowF n)
  have LO := lowest_any n
  unfold setV at SU LO ⊢
  obtain ⟨x, hX⟩ : ∃ x, wordX F = x := ⟨_, rfl⟩
  obtain ⟨y, hY⟩ : ∃ y, wordY F = y := ⟨_, rfl⟩
  obtain ⟨a, hA⟩ : ∃ x, wordX (lowF n) = x := ⟨_, rfl⟩
  obtain ⟨b, hB⟩ : ∃ x, wordY (lowF n) = x := ⟨_, rfl⟩
  obtain ⟨r, hR⟩ : ∃ x, wordX (fun j => F j && lowF n j) = x := ⟨_, rfl⟩
  obtain ⟨t, hT⟩ : ∃ x, wordY (fun j => F j && lowF n j) = x := ⟨_, rfl⟩
  rw [hX, hY, hA, hB, hR, hT] at SU
  rw [hA, hB] at LO
  rw [hX, hY, hR, hT]
  have SUh := Lib.hid SU
  have LOh := Lib.hid LO
  clear SU LO hX hY hA hB hR hT
  go_enter Tryd.func33, Tryd.ntmps33
  go_wp2_with fail
  obtain ⟨B1, B2, _, BE⟩ := two_blk (w := w) (Below.refl _ ((w.alloc (.cells #[.int .u64 x, .int .u64 y] 38)).alloc (.cells #[.int .u64 0, .int .u64 0] 38)))
  obtain ⟨V, hV⟩ : ∃ V, (w.alloc (.cells #[.int .u64 x, .int .u64 y] 38)).alloc (.cells #[.int .u64 0, .int .u64 0] 38) = V := ⟨_, rfl⟩
  rw [hV] at B1 B2 BE ⊢
  obtain ⟨c0, c1, _, _⟩ := B1.two
  have B2h := Lib.hid B2
  have BEh := Lib.hid BE
  clear hV B1 B2 BE
  go_region_held3 (fun W => W.cell? ⟨w.heap.size, 0, none⟩ = some (.int .u64 x) ∧ W.cell? ⟨w.heap.size, 1, none⟩ = some (.int .u64 y))
    (go_keep)
    (first
      | (go_at_call 42; refine (LOh.out V.drew).mono ?_; rintro e w2 ⟨rfl, hb2⟩; have n0 := Lib.hid (bkeep (w := V.drew) hb2 c0); have n1 := Lib.hid (bkeep (w := V.drew) hb2 c1); clear c0 c1; have c0 := n0.out; have c1 := n1.out; have B2i := Lib.hid (Blk.next (w := V.drew) B2h.out hb2); have BEi := Lib.hid (BEh.out.drew.trans (hb2.mono BEh.out.drew.size)))
      | (go_at_call 43; refine (SUh.out w2).mono ?_; rintro e w3 ⟨rfl, hb3⟩; have n2 := Lib.hid (bkeep hb3 c0); have n3 := Lib.hid (bkeep hb3 c1); clear c0 c1; have c0 := n2.out; have c1 := n3.out; obtain ⟨r0, r1, f0, f1⟩ := (B2i.out.next hb3).two; have BEj := Lib.hid (BEi.out.trans (hb3.mono BEi.out.size))))
  go_wp2_with fail
  refine bodyPost_ret (v := .agg #[.int .u64 r, .int .u64 t]) (by simp [results, Tryd.results33, go_sem, *]) rfl ⟨rfl, (BEj.out.setCell (by show w.heap.size ≤ w.heap.size + 1; omega) _).setCell (by show w.heap.size ≤ w.heap.size + 1; omega) _⟩
end Go.Proofs.YteebeiflipfbkaaDoor
