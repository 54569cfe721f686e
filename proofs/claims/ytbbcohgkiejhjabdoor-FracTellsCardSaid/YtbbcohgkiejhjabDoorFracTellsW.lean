/- The walk of FracTells: it answers true for every input, and leaves all old blocks as they were. No condition but the laid tables, which are tied to the text. -/
import Derived.Test.YtbbcohgkiejhjabDoorRows
import Derived.Test.YtbbcohgkiejhjabDoorRowKit
import Derived.Test.YtbbcohgkiejhjabDoorFracA
import Derived.Test.YtbbcohgkiejhjabDoorFracB
import Derived.WalkKit
import Derived.ProofKit
import Derived.OpenShut
import Derived.Deep.QuietTactic
import Derived.BigQuiet
import Derived.Lib.SmallJoins
import Derived.Lib.Hide
import Derived.WalkSpells
import Derived.WalkLawsBesides
import Derived.IntWalk
import Derived.Deep.WholeRow
import Derived.Laws.CopyOwn
import Derived.Deep.RegionHeld3
namespace Go.Proofs.YtbbcohgkiejhjabDoor.fracTells
open Go.ChangeShapes Go.WideShapes Go.ChangeAt Go.RowKit Go.Joins
set_option linter.unusedSimpArgs false
set_option linter.unusedVariables false

theorem blk_of {w w1 : World} {c : Array Value} {t : TypeId} (hb : Below (w.alloc (.cells c t)).heap.size (w.alloc (.cells c t)) w1) :
    w1.heap[w.heap.size]? = some (.cells c t) ∧ w.heap.size + 1 ≤ w1.heap.size ∧ Below w.heap.size w w1 :=
  ⟨(hb.block w.heap.size (by simp)).trans (heap_alloc_last w _), by have := hb.size; simpa using this, ((Below.refl _ _).alloc (Nat.le_refl _) _).trans (hb.mono (by simp))⟩
/-- what a quotient, times its divisor, and what is left, come to -/
theorem div_facts {n m : Int} (h : 0 ≤ n) (h' : 1 ≤ m) : n / m * m + n % m = n ∧ 0 ≤ n % m ∧ n % m < m ∧ 0 ≤ n / m * m ∧ n / m * m ≤ n := by
  have e := Int.ediv_mul_add_emod n m
  have a := Int.emod_nonneg n (b := m) (by omega)
  have b := Int.emod_lt_of_pos n (b := m) (by omega)
  have c := Int.mul_nonneg (Int.ediv_nonneg h (show 0 ≤ m by omega)) (show 0 ≤ m by omega)
  exact ⟨e, a, b, c, by omega⟩
set_option maxRecDepth 100000 in
set_option maxHeartbeats 1000000 in
theorem walk_ok {a0 a1 a20 a21 a22 : Int} (w20 : (Lit.int .i64 a20).wf = true) (w21 : (Lit.int .i64 a21).wf = true) (w22 : (Lit.int .i64 a22).wf = true) (w : World) (g0 : 0 ≤ a0) (g1 : 1 ≤ a1) (c22 : a22 ≤ 9223372036854775807) (c0 : a0 ≤ 9223372036854775807) (c1 : a1 ≤ 9223372036854775807) :
    Calls Tryd.prog 3 #[.int .i64 a0, .int .i64 a1, .agg #[.int .i64 a20, .int .i64 a21, .int .i64 a22]] w fun e w' => e = .returned (.bool true) ∧ Below w.heap.size w w' := by
  obtain ⟨e1, e2, e3, e4, e5⟩ := div_facts g0 g1
  have E1 := Lib.hid e1
  have e6 : a0 / a1 ≤ a0 := Int.ediv_le_self _ (by omega)
  have e7 : 0 ≤ a0 / a1 := Int.ediv_nonneg (by omega) (by omega)
  clear e1
  go_enter Tryd.func3, Tryd.ntmps3
  go_wp2_with fail
  refine (of_ok a0 a1 _ g0 g1 c0).mono ?_
  rintro e x1 ⟨rfl, hb1⟩
  obtain ⟨k1, hz, hb⟩ := blk_of hb1
  clear hb1
  have K1 := Lib.hid k1
  clear k1
  go_wp2_with fail
  have e1 := E1.out
  have hne : ¬ a1 = 0 := by omega
  have htd : a0.tdiv a1 = a0 / a1 := Int.tdiv_eq_ediv_of_nonneg g0
  have hw0 : IntKind.i64.wrap (a0 / a1) = a0 / a1 := IntWalk.i64_in _ (by omega)
  have d1 : decide (a0 % a1 < 0) = false := by simp; omega
  have d2 : decide (a1 ≤ a0 % a1) = false := by simp; omega
  have hw1 : IntKind.i64.wrap (a0 / a1 * a1) = a0 / a1 * a1 := IntWalk.i64_in _ (by omega)
  have hw2 : IntKind.i64.wrap (a0 / a1 * a1 + a0 % a1) = a0 := by rw [e1]; exact IntWalk.i64_in _ (by omega)
  go_quiet (fail)
  clear hw1 hw2 hw0 htd hne d1 d2 e1
  have k0 := blk_cell K1.out 0
  have k1 := blk_cell K1.out 1
  have k2 := blk_cell K1.out 2
  simp at k0 k1 k2
  go_wp2_with fail
  go_region_held3 (fun W => W.cell? ⟨w.heap.size, 0, none⟩ = some (.int .i64 a20) ∧ W.cell? ⟨w.heap.size, 1, none⟩ = some (.int .i64 a21) ∧ W.cell? ⟨w.heap.size, 2, none⟩ = some (.int .i64 a22))
    (go_keep)
    (first
      | (go_at_call 9; refine (right_any _ _ _ _).mono ?_; rintro e y1 ⟨rfl, hr1⟩; obtain ⟨k10, k11, k12, hz1⟩ := keep3 (g := w.heap.size) hr1 (by first | omega | (simp; omega)) (by first | assumption | (refine ⟨?_, ?_, ?_⟩ <;> (first | assumption | (simp [*]; done) | (go_simp; done)))))
      | (go_at_call 10; refine (rright_any _ _ _ _).mono ?_; rintro e y2 ⟨rfl, hr2⟩; obtain ⟨k20, k21, k22, hz2⟩ := keep3 (g := w.heap.size) hr2 (by first | omega | (simp; omega)) (by first | assumption | (refine ⟨?_, ?_, ?_⟩ <;> (first | assumption | (simp [*]; done) | (go_simp; done)))))
      | (go_at_call 11; refine (least_any _ _ _ _ c22).mono ?_; rintro e y3 ⟨rfl, hr3⟩; obtain ⟨k30, k31, k32, hz3⟩ := keep3 (g := w.heap.size) hr3 (by first | omega | (simp; omega)) (by first | assumption | (refine ⟨?_, ?_, ?_⟩ <;> (first | assumption | (simp [*]; done) | (go_simp; done)))))
      | (go_at_call 12; refine (rleast_any _ _ _ _ c22).mono ?_; rintro e y4 ⟨rfl, hr4⟩; obtain ⟨k40, k41, k42, hz4⟩ := keep3 (g := w.heap.size) hr4 (by first | omega | (simp; omega)) (by first | assumption | (refine ⟨?_, ?_, ?_⟩ <;> (first | assumption | (simp [*]; done) | (go_simp; done)))))
      | (go_at_call 13; refine (alive_any _).mono ?_; rintro e y5 ⟨rfl, hr5⟩; obtain ⟨k50, k51, k52, hz5⟩ := keep3 (g := w.heap.size) hr5 (by first | omega | (simp; omega)) (by first | assumption | (refine ⟨?_, ?_, ?_⟩ <;> (first | assumption | (simp [*]; done) | (go_simp; done))))))
  go_wp2_with fail
  go_ret
  exact ⟨rfl, (((((below_drewN (hb.alloc (by omega) _) _).trans (hr1.mono (by simp; omega))).trans (hr2.mono (by omega))).trans (hr3.mono (by omega))).trans (hr4.mono (by omega))).trans (hr5.mono (by omega))⟩
set_option maxRecDepth 100000 in
set_option maxHeartbeats 1000000 in
theorem walk_neg0 {a0 a1 a20 a21 a22 : Int} (w20 : (Lit.int .i64 a20).wf = true) (w21 : (Lit.int .i64 a21).wf = true) (w22 : (Lit.int .i64 a22).wf = true) (w : World) (g0 : a0 < 0) (c22 : a22 ≤ 9223372036854775807) :
    Calls Tryd.prog 3 #[.int .i64 a0, .int .i64 a1, .agg #[.int .i64 a20, .int .i64 a21, .int .i64 a22]] w fun e w' => e = .returned (.bool true) ∧ Below w.heap.size w w' := by
  go_enter Tryd.func3, Tryd.ntmps3
  go_wp2_with fail
  refine (of_neg a0 a1 _ (.inl g0)).mono ?_
  rintro e x1 ⟨rfl, hb1⟩
  obtain ⟨k1, hz, hb⟩ := blk_of hb1
  clear hb1
  have K1 := Lib.hid k1
  clear k1
  have k0 := blk_cell K1.out 0
  have k1 := blk_cell K1.out 1
  have k2 := blk_cell K1.out 2
  simp at k0 k1 k2
  go_wp2_with fail
  go_region_held3 (fun W => W.cell? ⟨w.heap.size, 0, none⟩ = some (.int .i64 a20) ∧ W.cell? ⟨w.heap.size, 1, none⟩ = some (.int .i64 a21) ∧ W.cell? ⟨w.heap.size, 2, none⟩ = some (.int .i64 a22))
    (go_keep)
    (first
      | (go_at_call 9; refine (right_any _ _ _ _).mono ?_; rintro e y1 ⟨rfl, hr1⟩; obtain ⟨k10, k11, k12, hz1⟩ := keep3 (g := w.heap.size) hr1 (by first | omega | (simp; omega)) (by first | assumption | (refine ⟨?_, ?_, ?_⟩ <;> (first | assumption | (simp [*]; done) | (go_simp; done)))))
      | (go_at_call 10; refine (rright_any _ _ _ _).mono ?_; rintro e y2 ⟨rfl, hr2⟩; obtain ⟨k20, k21, k22, hz2⟩ := keep3 (g := w.heap.size) hr2 (by first | omega | (simp; omega)) (by first | assumption | (refine ⟨?_, ?_, ?_⟩ <;> (first | assumption | (simp [*]; done) | (go_simp; done)))))
      | (go_at_call 11; refine (least_any _ _ _ _ c22).mono ?_; rintro e y3 ⟨rfl, hr3⟩; obtain ⟨k30, k31, k32, hz3⟩ := keep3 (g := w.heap.size) hr3 (by first | omega | (simp; omega)) (by first | assumption | (refine ⟨?_, ?_, ?_⟩ <;> (first | assumption | (simp [*]; done) | (go_simp; done)))))
      | (go_at_call 12; refine (rleast_any _ _ _ _ c22).mono ?_; rintro e y4 ⟨rfl, hr4⟩; obtain ⟨k40, k41, k42, hz4⟩ := keep3 (g := w.heap.size) hr4 (by first | omega | (simp; omega)) (by first | assumption | (refine ⟨?_, ?_, ?_⟩ <;> (first | assumption | (simp [*]; done) | (go_simp; done)))))
      | (go_at_call 13; refine (alive_any _).mono ?_; rintro e y5 ⟨rfl, hr5⟩; obtain ⟨k50, k51, k52, hz5⟩ := keep3 (g := w.heap.size) hr5 (by first | omega | (simp; omega)) (by first | assumption | (refine ⟨?_, ?_, ?_⟩ <;> (first | assumption | (simp [*]; done) | (go_simp; done))))))
  go_wp2_with fail
  go_ret
  exact ⟨rfl, (((((below_drewN (hb.alloc (by omega) _) _).trans (hr1.mono (by simp; omega))).trans (hr2.mono (by omega))).trans (hr3.mono (by omega))).trans (hr4.mono (by omega))).trans (hr5.mono (by omega))⟩
set_option maxRecDepth 100000 in
set_option maxHeartbeats 1000000 in
theorem walk_neg1 {a0 a1 a20 a21 a22 : Int} (w20 : (Lit.int .i64 a20).wf = true) (w21 : (Lit.int .i64 a21).wf = true) (w22 : (Lit.int .i64 a22).wf = true) (w : World) (g0 : 0 ≤ a0) (g1 : a1 < 0) (c22 : a22 ≤ 9223372036854775807) :
    Calls Tryd.prog 3 #[.int .i64 a0, .int .i64 a1, .agg #[.int .i64 a20, .int .i64 a21, .int .i64 a22]] w fun e w' => e = .returned (.bool true) ∧ Below w.heap.size w w' := by
  go_enter Tryd.func3, Tryd.ntmps3
  go_wp2_with fail
  refine (of_neg a0 a1 _ (.inr g1)).mono ?_
  rintro e x1 ⟨rfl, hb1⟩
  obtain ⟨k1, hz, hb⟩ := blk_of hb1
  clear hb1
  have K1 := Lib.hid k1
  clear k1
  have k0 := blk_cell K1.out 0
  have k1 := blk_cell K1.out 1
  have k2 := blk_cell K1.out 2
  simp at k0 k1 k2
  go_wp2_with fail
  go_region_held3 (fun W => W.cell? ⟨w.heap.size, 0, none⟩ = some (.int .i64 a20) ∧ W.cell? ⟨w.heap.size, 1, none⟩ = some (.int .i64 a21) ∧ W.cell? ⟨w.heap.size, 2, none⟩ = some (.int .i64 a22))
    (go_keep)
    (first
      | (go_at_call 9; refine (right_any _ _ _ _).mono ?_; rintro e y1 ⟨rfl, hr1⟩; obtain ⟨k10, k11, k12, hz1⟩ := keep3 (g := w.heap.size) hr1 (by first | omega | (simp; omega)) (by first | assumption | (refine ⟨?_, ?_, ?_⟩ <;> (first | assumption | (simp [*]; done) | (go_simp; done)))))
      | (go_at_call 10; refine (rright_any _ _ _ _).mono ?_; rintro e y2 ⟨rfl, hr2⟩; obtain ⟨k20, k21, k22, hz2⟩ := keep3 (g := w.heap.size) hr2 (by first | omega | (simp; omega)) (by first | assumption | (refine ⟨?_, ?_, ?_⟩ <;> (first | assumption | (simp [*]; done) | (go_simp; done)))))
      | (go_at_call 11; refine (least_any _ _ _ _ c22).mono ?_; rintro e y3 ⟨rfl, hr3⟩; obtain ⟨k30, k31, k32, hz3⟩ := keep3 (g := w.heap.size) hr3 (by first | omega | (simp; omega)) (by first | assumption | (refine ⟨?_, ?_, ?_⟩ <;> (first | assumption | (simp [*]; done) | (go_simp; done)))))
      | (go_at_call 12; refine (rleast_any _ _ _ _ c22).mono ?_; rintro e y4 ⟨rfl, hr4⟩; obtain ⟨k40, k41, k42, hz4⟩ := keep3 (g := w.heap.size) hr4 (by first | omega | (simp; omega)) (by first | assumption | (refine ⟨?_, ?_, ?_⟩ <;> (first | assumption | (simp [*]; done) | (go_simp; done)))))
      | (go_at_call 13; refine (alive_any _).mono ?_; rintro e y5 ⟨rfl, hr5⟩; obtain ⟨k50, k51, k52, hz5⟩ := keep3 (g := w.heap.size) hr5 (by first | omega | (simp; omega)) (by first | assumption | (refine ⟨?_, ?_, ?_⟩ <;> (first | assumption | (simp [*]; done) | (go_simp; done))))))
  go_wp2_with fail
  go_ret
  exact ⟨rfl, (((((below_drewN (hb.alloc (by omega) _) _).trans (hr1.mono (by simp; omega))).trans (hr2.mono (by omega))).trans (hr3.mono (by omega))).trans (hr4.mono (by omega))).trans (hr5.mono (by omega))⟩
set_option maxRecDepth 100000 in
set_option maxHeartbeats 1000000 in
theorem walk_zero {a0 a20 a21 a22 : Int} (w20 : (Lit.int .i64 a20).wf = true) (w21 : (Lit.int .i64 a21).wf = true) (w22 : (Lit.int .i64 a22).wf = true) (w : World) (g0 : 0 ≤ a0) (c22 : a22 ≤ 9223372036854775807) :
    Calls Tryd.prog 3 #[.int .i64 a0, .int .i64 0, .agg #[.int .i64 a20, .int .i64 a21, .int .i64 a22]] w fun e w' => e = .returned (.bool true) ∧ Below w.heap.size w w' := by
  go_enter Tryd.func3, Tryd.ntmps3
  go_wp2_with fail
  refine (of_zero a0 _ g0).mono ?_
  rintro e x1 ⟨rfl, hb1⟩
  obtain ⟨k1, hz, hb⟩ := blk_of hb1
  clear hb1
  have K1 := Lib.hid k1
  clear k1
  have k0 := blk_cell K1.out 0
  have k1 := blk_cell K1.out 1
  have k2 := blk_cell K1.out 2
  simp at k0 k1 k2
  go_wp2_with fail
  go_region_held3 (fun W => W.cell? ⟨w.heap.size, 0, none⟩ = some (.int .i64 a20) ∧ W.cell? ⟨w.heap.size, 1, none⟩ = some (.int .i64 a21) ∧ W.cell? ⟨w.heap.size, 2, none⟩ = some (.int .i64 a22))
    (go_keep)
    (first
      | (go_at_call 9; refine (right_any _ _ _ _).mono ?_; rintro e y1 ⟨rfl, hr1⟩; obtain ⟨k10, k11, k12, hz1⟩ := keep3 (g := w.heap.size) hr1 (by first | omega | (simp; omega)) (by first | assumption | (refine ⟨?_, ?_, ?_⟩ <;> (first | assumption | (simp [*]; done) | (go_simp; done)))))
      | (go_at_call 10; refine (rright_any _ _ _ _).mono ?_; rintro e y2 ⟨rfl, hr2⟩; obtain ⟨k20, k21, k22, hz2⟩ := keep3 (g := w.heap.size) hr2 (by first | omega | (simp; omega)) (by first | assumption | (refine ⟨?_, ?_, ?_⟩ <;> (first | assumption | (simp [*]; done) | (go_simp; done)))))
      | (go_at_call 11; refine (least_any _ _ _ _ c22).mono ?_; rintro e y3 ⟨rfl, hr3⟩; obtain ⟨k30, k31, k32, hz3⟩ := keep3 (g := w.heap.size) hr3 (by first | omega | (simp; omega)) (by first | assumption | (refine ⟨?_, ?_, ?_⟩ <;> (first | assumption | (simp [*]; done) | (go_simp; done)))))
      | (go_at_call 12; refine (rleast_any _ _ _ _ c22).mono ?_; rintro e y4 ⟨rfl, hr4⟩; obtain ⟨k40, k41, k42, hz4⟩ := keep3 (g := w.heap.size) hr4 (by first | omega | (simp; omega)) (by first | assumption | (refine ⟨?_, ?_, ?_⟩ <;> (first | assumption | (simp [*]; done) | (go_simp; done)))))
      | (go_at_call 13; refine (alive_any _).mono ?_; rintro e y5 ⟨rfl, hr5⟩; obtain ⟨k50, k51, k52, hz5⟩ := keep3 (g := w.heap.size) hr5 (by first | omega | (simp; omega)) (by first | assumption | (refine ⟨?_, ?_, ?_⟩ <;> (first | assumption | (simp [*]; done) | (go_simp; done))))))
  go_wp2_with fail
  go_ret
  exact ⟨rfl, (((((below_drewN (hb.alloc (by omega) _) _).trans (hr1.mono (by simp; omega))).trans (hr2.mono (by omega))).trans (hr3.mono (by omega))).trans (hr4.mono (by omega))).trans (hr5.mono (by omega))⟩
theorem walk {a0 a1 a20 a21 a22 : Int} (w0 : (Lit.int .i64 a0).wf = true) (w1 : (Lit.int .i64 a1).wf = true) (w20 : (Lit.int .i64 a20).wf = true) (w21 : (Lit.int .i64 a21).wf = true) (w22 : (Lit.int .i64 a22).wf = true) {LL : Prop} (hL : LL) (w : World) :
    Calls Tryd.prog 3 #[.int .i64 a0, .int .i64 a1, .agg #[.int .i64 a20, .int .i64 a21, .int .i64 a22]] w fun e w' => e = .returned (.bool true) ∧ Below w.heap.size w w' := by
  obtain ⟨b0, c0⟩ := bounds_i64 w0
  obtain ⟨b1, c1⟩ := bounds_i64 w1
  obtain ⟨b22, c22⟩ := bounds_i64 w22
  by_cases h0 : a0 < 0
  · exact walk_neg0 w20 w21 w22 w h0 c22
  · by_cases h1 : a1 < 0
    · exact walk_neg1 w20 w21 w22 w (by omega) h1 c22
    · by_cases h2 : a1 = 0
      · subst h2; exact walk_zero w20 w21 w22 w (by omega) c22
      · exact walk_ok w20 w21 w22 w (by omega) (by omega) c22 c0 c1

end Go.Proofs.YtbbcohgkiejhjabDoor.fracTells
