/- Contracts of words.Left, Next, Below, Many and of the law's own helpers. -/
import Derived.Test.YteebeiflipfbkaaRows
import Derived.Test.YteebeiflipfbkaaRowKit
import Derived.Test.YteebeiflipfbkaaSlicesEq
import Derived.Test.YteebeiflipfbkaaBlocks
import Derived.WalkKit
import Derived.Lib.Hide
import Derived.WalkSpells
import Derived.WalkLawsBesides
import Derived.Laws.CopyOwn
import Derived.Deep.WholeRow
import Derived.Deep.RegionHeld3
import Derived.Deep.QuietTactic
import Derived.BigQuiet
namespace Go.Proofs.Yteebeiflipfbkaa
open Go.RowKit
set_option linter.unusedSimpArgs false
set_option linter.unusedVariables false
theorem ret1 {k : IntKind} {a b : Int} (h : a = b) : Ending.returned (.int k a) = .returned (.int k b) := by rw [h]
/-- how many are left: so many words, so many drawn -/
def lf (n : Nat) (a : Int) : Int := if 0 ≤ a ∧ a ≤ n then n - a else 0
theorem lf_in {n : Nat} {a : Int} (h : 0 ≤ a ∧ a ≤ n) : lf n a = n - a := if_pos h
theorem lf_out {n : Nat} {a : Int} (h : ¬ (0 ≤ a ∧ a ≤ n)) : lf n a = 0 := if_neg h
set_option maxHeartbeats 400000 in
theorem left_any (A : Option Addr) (n c : Nat) (a : Int) (w : World) (hn : n ≤ 9223372036854775807) (ha : -9223372036854775808 ≤ a) (ha' : a ≤ 9223372036854775807) :
    Calls Try.prog 116 #[.agg #[.slice A n c, .int .i64 a]] w fun e w' => e = .returned (.int .i64 (lf n a)) ∧ Below w.heap.size w w' := by
  by_cases h : a < 0
  · rw [lf_out (by omega)]
    go_enter Try.func116, Try.ntmps116
    go_wp2_with fail
    go_ret
    exact ⟨rfl, (Below.refl _ _).alloc (Nat.le_refl _) _⟩
  · go_enter Try.func116, Try.ntmps116
    go_wp2_with fail
    all_goals
      go_ret
      exact ⟨ret1 (by unfold lf; split <;> omega), (Below.refl _ _).alloc (Nat.le_refl _) _⟩
set_option maxHeartbeats 400000 in
theorem drawn_any (A : Option Addr) (n c : Nat) (a m : Int) (w : World) (ha : -9223372036854775808 ≤ a + m) (ha' : a + m ≤ 9223372036854775807) :
    Calls Try.prog 117 #[.agg #[.slice A n c, .int .i64 a], .int .i64 m] w fun e w' => e = .returned (.agg #[.slice A n c, .int .i64 (a + m)]) ∧ Below w.heap.size w w' := by
  go_enter Try.func117, Try.ntmps117
  go_wp2_with fail
  exact bodyPost_ret (v := .agg #[.slice A n c, .int .i64 (a + m)]) (by simp [results, Try.results117, go_sem]) rfl ⟨rfl, ((Below.refl _ _).alloc (Nat.le_refl _) _).alloc (by simp) _⟩
set_option maxHeartbeats 400000 in
theorem next_dry (A : Option Addr) (n c : Nat) (a : Int) (w : World) (hn : n ≤ 9223372036854775807) (ha : -9223372036854775808 ≤ a) (ha' : a ≤ 9223372036854775807) (h : lf n a = 0) :
    Calls Try.prog 109 #[.agg #[.slice A n c, .int .i64 a]] w fun e w' => e = .returned (.tuple #[.int .u32 0, .agg #[.slice A n c, .int .i64 a], .int .i64 50]) ∧ Below w.heap.size w w' := by
  have H := left_any A n c a
  rw [h] at H
  have HL := Lib.hid H
  clear H h
  go_enter Try.func109, Try.ntmps109
  go_wp2_with fail
  refine (HL.out _ hn ha ha').mono ?_
  rintro e w1 ⟨rfl, hb1⟩
  obtain ⟨g1, g2, hz, hb⟩ := two_blk hb1
  clear hb1
  obtain ⟨k0, k1, f0, f1⟩ := g1.two
  obtain ⟨l0, l1, e0, e1⟩ := g2.two
  have G := Lib.hid (And.intro g1 g2)
  clear g1 g2
  go_wp2_with fail
  go_region
  all_goals go_wp2_with fail
  all_goals exact bodyPost_ret (v := .tuple #[.int .u32 0, .agg #[.slice A n c, .int .i64 a], .int .i64 50]) (by simp [results, Try.results109, go_sem, *]) rfl ⟨rfl, by repeat (first | exact hb | apply Below.drew | apply Below.setCell | exact Nat.le_succ _)⟩
theorem cell_next {w w' : World} {a : Addr} {v : Value} (hb : Below w.heap.size w w') (h : w.cell? a = some v) : w'.cell? a = some v := (hb.cell (lt_of_cell h)).trans h
theorem cell_draw {w : World} {a : Addr} {v : Value} (h : w.cell? a = some v) (n : Nat) : (w.drewN n).cell? a = some v := h
set_option maxHeartbeats 400000 in
theorem next_some (b off n c k : Nat) (v : Int) (w : World) (hn : n ≤ 9223372036854775807) (hk : k < n) (hc : w.cell? ⟨b, off + k, none⟩ = some (.int .u32 v)) :
    Calls Try.prog 109 #[.agg #[.slice (some ⟨b, off, none⟩) n c, .int .i64 k]] w fun e w' => e = .returned (.tuple #[.int .u32 v, .agg #[.slice (some ⟨b, off, none⟩) n c, .int .i64 (k + 1)], .int .i64 0]) ∧ Below w.heap.size w w' := by
  have hb : b < w.heap.size := lt_of_cell (a := ⟨b, off + k, none⟩) hc
  have H := left_any (some ⟨b, off, none⟩) n c k
  rw [lf_in (by omega)] at H
  have HL := Lib.hid H
  clear H
  go_enter Try.func109, Try.ntmps109
  go_wp2_with fail
  refine (HL.out _ hn (by omega) (by omega)).mono ?_
  rintro e w1 ⟨rfl, hb1⟩
  obtain ⟨g1, g2, hz, hbb⟩ := two_blk hb1
  have hc1 := (hbb.cell (p := ⟨b, off + k, none⟩) hb).trans hc
  clear hb1 hc
  obtain ⟨k0, k1, f0, f1⟩ := g1.two
  obtain ⟨l0, l1, e0, e1⟩ := g2.two
  have G := Lib.hid (And.intro g1 g2)
  clear g1 g2
  have hd : (((n : Int) - k) == 0) = false := by rw [beq_eq_false_iff_ne]; omega
  have n1 : b ≠ w.heap.size + 1 := by omega
  have n2 : w.heap.size + 1 ≠ b := by omega
  go_wp2_with fail
  go_region_held3 (fun W => W.cell? ⟨w.heap.size, 0, none⟩ = some (.slice (some ⟨b, off, none⟩) n c) ∧ W.cell? ⟨w.heap.size, 1, none⟩ = some (.int .i64 k) ∧ W.cell? ⟨b, off + k, none⟩ = some (.int .u32 v))
    (go_keep)
    (first
      | (go_at_call 117; refine (drawn_any (some ⟨b, off, none⟩) n c k 1 _ (by omega) (by omega)).mono ?_; rintro e w2 ⟨rfl, hb2⟩; have G2 := Lib.hid (And.intro (Blk.next (G.out.1.draw _) hb2) (Blk.next (G.out.2.draw _) hb2)); have hc2 := Lib.hid (cell_next hb2 (cell_draw hc1 _)); clear k0 k1 f0 f1 l0 l1 e0 e1 hc1; obtain ⟨k0, k1, f0, f1⟩ := G2.out.1.two; obtain ⟨l0, l1, e0, e1⟩ := G2.out.2.two; have hc1 := hc2.out))
  have hw2 : Below w.heap.size w w2 := (hbb.drew).trans (hb2.mono (by have := hbb.size; simpa using this))
  go_wp2_with fail
  exact bodyPost_ret (v := .tuple #[.int .u32 v, .agg #[.slice (some ⟨b, off, none⟩) n c, .int .i64 (k + 1)], .int .i64 0]) (by simp [results, Try.results109, go_sem, *]) rfl ⟨rfl, by repeat (first | exact hw2 | apply Below.drew | apply Below.setCell | exact Nat.le_succ _)⟩
theorem scale_bd {v d : Int} (hv : 0 ≤ v) (hv' : v ≤ 4294967295) (hd : 0 ≤ d) (hd' : d ≤ 4294967295) : 0 ≤ v * d ∧ v * d ≤ 18446744065119617025 :=
  ⟨Int.mul_nonneg hv hd, Int.le_trans (Int.mul_le_mul_of_nonneg_right hv' hd) (by omega)⟩
set_option maxHeartbeats 400000 in
theorem scale_any (v d : Int) (w : World) (hv : 0 ≤ v) (hv' : v ≤ 4294967295) (hd : 0 ≤ d) (hd' : d ≤ 4294967295) :
    Calls Try.prog 110 #[.int .u32 v, .int .u32 d] w fun e w' => e = .returned (.int .u32 (v * d / 4294967296)) ∧ w = w' := by
  obtain ⟨h1, h2⟩ := scale_bd hv hv' hd hd'
  go_enter Try.func110, Try.ntmps110
  go_wp2_with fail
  go_ret
  exact ⟨ret1 (by first | rfl | (try simp only [IntKind.wrap_u32, IntKind.wrap_u64]; omega)), rfl⟩
set_option maxHeartbeats 400000 in
theorem below_arg (A : Option Addr) (n c : Nat) (a : Int) (w : World) :
    Calls Try.prog 83 #[.agg #[.slice A n c, .int .i64 a], .int .u32 0] w fun e w' => e = .returned (.tuple #[.int .u32 0, .agg #[.slice A n c, .int .i64 a], .int .i64 22]) ∧ Below w.heap.size w w' := by
  go_enter Try.func83, Try.ntmps83
  go_wp2_with fail
  try go_region
  all_goals go_wp2_with fail
  all_goals exact bodyPost_ret (v := .tuple #[.int .u32 0, .agg #[.slice A n c, .int .i64 a], .int .i64 22]) (by simp [results, Try.results83, go_sem, *]) rfl ⟨rfl, by repeat (first | exact (((Below.refl _ _).alloc (Nat.le_refl _) _).alloc (by simp) _) | apply Below.drew | (apply Below.setCell; simp) )⟩
set_option maxHeartbeats 400000 in
theorem below_dry (A : Option Addr) (n c : Nat) (a d : Int) (w : World) (hn : n ≤ 9223372036854775807) (ha : -9223372036854775808 ≤ a) (ha' : a ≤ 9223372036854775807) (h : lf n a = 0) (hd : 1 ≤ d) (hd' : d ≤ 4294967295) :
    Calls Try.prog 83 #[.agg #[.slice A n c, .int .i64 a], .int .u32 d] w fun e w' => e = .returned (.tuple #[.int .u32 0, .agg #[.slice A n c, .int .i64 a], .int .i64 50]) ∧ Below w.heap.size w w' := by
  have H := Lib.hid h
  clear h
  have hz : (d == 0) = false := by rw [beq_eq_false_iff_ne]; omega
  go_enter Try.func83, Try.ntmps83
  go_wp2_with fail
  refine (next_dry A n c a _ hn ha ha' H.out).mono ?_
  rintro e w1 ⟨rfl, hb1⟩
  obtain ⟨g1, g2, hzz, hb⟩ := two_blk hb1
  clear hb1
  obtain ⟨k0, k1, f0, f1⟩ := g1.two
  obtain ⟨l0, l1, e0, e1⟩ := g2.two
  go_wp2_with fail
  clear k0 k1 f0 f1 l0 l1 e0 e1
  obtain ⟨X, hX⟩ : ∃ X : World, ((w1.setCell ⟨w.heap.size, 0, none⟩ (.slice A n c)).setCell ⟨w.heap.size, 1, none⟩ (.int .i64 a)) = X := ⟨_, rfl⟩
  have hbX : Below w.heap.size w X := by rw [← hX]; exact (hb.setCell (Nat.le_refl _) _).setCell (Nat.le_refl _) _
  have gX := g1.put2 (.slice A n c) (.int .i64 a)
  rw [hX] at gX
  have gY := (g2.far (p := ⟨w.heap.size, 0, none⟩) (by simp) (.slice A n c)).far (p := ⟨w.heap.size, 1, none⟩) (by simp) (.int .i64 a)
  rw [hX] at gY
  rw [hX]
  obtain ⟨k0, k1, f0, f1⟩ := gX.two
  obtain ⟨l0, l1, e0, e1⟩ := gY.two
  have G := Lib.hid (And.intro gX gY)
  clear g1 g2 gX gY hX hb
  go_region_held3 (fun W => W.cell? ⟨w.heap.size, 0, none⟩ = some (.slice A n c) ∧ W.cell? ⟨w.heap.size, 1, none⟩ = some (.int .i64 a))
    (go_keep)
    (first
      | (go_at_call 110; refine (scale_any 0 d _ (by omega) (by omega) (by omega) hd').mono ?_; rintro e w2 ⟨rfl, rfl⟩))
  all_goals go_wp2_with fail
  all_goals exact bodyPost_ret (v := .tuple #[.int .u32 0, .agg #[.slice A n c, .int .i64 a], .int .i64 50]) (by simp [results, Try.results83, go_sem, *]) rfl ⟨rfl, by repeat (first | exact hbX | apply below_drewN | apply Below.drew | apply Below.setCell | exact Nat.le_refl _ | exact Nat.le_succ _)⟩
set_option maxHeartbeats 400000 in
theorem below_some (b off n c k : Nat) (v d : Int) (w : World) (hn : n ≤ 9223372036854775807) (hk : k < n) (hc : w.cell? ⟨b, off + k, none⟩ = some (.int .u32 v)) (hv : 0 ≤ v) (hv' : v ≤ 4294967295) (hd : 1 ≤ d) (hd' : d ≤ 4294967295) :
    Calls Try.prog 83 #[.agg #[.slice (some ⟨b, off, none⟩) n c, .int .i64 k], .int .u32 d] w fun e w' => e = .returned (.tuple #[.int .u32 (v * d / 4294967296), .agg #[.slice (some ⟨b, off, none⟩) n c, .int .i64 (k + 1)], .int .i64 0]) ∧ Below w.heap.size w w' := by
  have H := Lib.hid hc
  clear hc
  have hz : (d == 0) = false := by rw [beq_eq_false_iff_ne]; omega
  go_enter Try.func83, Try.ntmps83
  go_wp2_with fail
  refine (next_some b off n c k v _ hn hk (((((Below.refl _ _).alloc (Nat.le_refl _) _).alloc (by simp) _).cell (lt_of_cell H.out)).trans H.out)).mono ?_
  rintro e w1 ⟨rfl, hb1⟩
  obtain ⟨g1, g2, hzz, hb⟩ := two_blk hb1
  clear hb1
  obtain ⟨k0, k1, f0, f1⟩ := g1.two
  obtain ⟨l0, l1, e0, e1⟩ := g2.two
  go_wp2_with fail
  clear k0 k1 f0 f1 l0 l1 e0 e1
  obtain ⟨X, hX⟩ : ∃ X : World, ((w1.setCell ⟨w.heap.size, 0, none⟩ (.slice (some ⟨b, off, none⟩) n c)).setCell ⟨w.heap.size, 1, none⟩ (.int .i64 (k + 1))) = X := ⟨_, rfl⟩
  have hbX : Below w.heap.size w X := by rw [← hX]; exact (hb.setCell (Nat.le_refl _) _).setCell (Nat.le_refl _) _
  have gX := g1.put2 (.slice (some ⟨b, off, none⟩) n c) (.int .i64 (k + 1))
  rw [hX] at gX
  have gY := (g2.far (p := ⟨w.heap.size, 0, none⟩) (by simp) (.slice (some ⟨b, off, none⟩) n c)).far (p := ⟨w.heap.size, 1, none⟩) (by simp) (.int .i64 (k + 1))
  rw [hX] at gY
  rw [hX]
  obtain ⟨k0, k1, f0, f1⟩ := gX.two
  obtain ⟨l0, l1, e0, e1⟩ := gY.two
  have G := Lib.hid (And.intro gX gY)
  clear g1 g2 gX gY hX hb
  go_region_held3 (fun W => W.cell? ⟨w.heap.size, 0, none⟩ = some (.slice (some ⟨b, off, none⟩) n c) ∧ W.cell? ⟨w.heap.size, 1, none⟩ = some (.int .i64 (k + 1)))
    (go_keep)
    (first
      | (go_at_call 110; refine (scale_any v d _ hv hv' (by omega) hd').mono ?_; rintro e w2 ⟨rfl, rfl⟩))
  all_goals go_wp2_with fail
  all_goals exact bodyPost_ret (v := .tuple #[.int .u32 (v * d / 4294967296), .agg #[.slice (some ⟨b, off, none⟩) n c, .int .i64 (k + 1)], .int .i64 0]) (by simp [results, Try.results83, go_sem, *]) rfl ⟨rfl, by repeat (first | exact hbX | apply below_drewN | apply Below.drew | apply Below.setCell | exact Nat.le_refl _ | exact Nat.le_succ _)⟩
end Go.Proofs.Yteebeiflipfbkaa
