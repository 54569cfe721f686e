/- The walk of NearTells: it answers true for every input, and leaves all old blocks as they were. No condition. -/
import Derived.Test.YtcofafiacpecnaaRows
import Derived.Test.YtcofafiacpecnaaRowKit
import Derived.Test.YtcofafiacpecnaaRowS
import Derived.Test.YtcofafiacpecnaaRowZ
import Derived.Test.YtcofafiacpecnaaRowV
import Derived.Test.YtcofafiacpecnaaSlicesEq
import Derived.Test.YtcofafiacpecnaaSlicesEqM
import Derived.Test.YtcofafiacpecnaaRowL
import Derived.Test.YtcofafiacpecnaaMakeI
import Derived.Test.YtcofafiacpecnaaCmp
import Derived.Test.YtcofafiacpecnaaPlaceA
import Derived.Test.YtcofafiacpecnaaBlocks
import Derived.Test.YtcofafiacpecnaaVetA
import Derived.Test.YtcofafiacpecnaaVetB
import Derived.Test.YtcofafiacpecnaaNearMath
import Derived.Test.YtcofafiacpecnaaNearA
import Derived.Test.YtcofafiacpecnaaNearB
import Derived.Test.YtcofafiacpecnaaNearC
import Derived.Test.YtcofafiacpecnaaNearD
import Derived.Test.YtcofafiacpecnaaNearE
import Derived.Test.YtcofafiacpecnaaNearF
import Derived.WalkKit
import Derived.ProofKit
import Derived.OpenShut
import Derived.Deep.QuietTactic
import Derived.BigQuiet
import Derived.Lib.SmallJoins
import Derived.Lib.Hide
import Derived.WalkSpells
import Derived.WalkLawsBesides
import Derived.IntWalk
import Derived.Deep.RegionHeld3
namespace Go.Proofs.Ytcofafiacpecnaa.nearTells
open Go.ChangeShapes Go.WideShapes Go.ChangeAt Go.RowKit Go.Joins
set_option linter.unusedSimpArgs false
set_option linter.unusedVariables false

/-- what is boxed -/
def BX2 (s : Nat → Int) (A : Option Addr) (n c : Nat) (f dir : Int) (w : World) : World := (w.alloc (.cells (scnC s A n c) 51)).alloc (.cells #[.int .i64 f, .int .i64 dir] 53)
theorem bx2_below (s : Nat → Int) (A : Option Addr) (n c : Nat) (f dir : Int) (w : World) : Below w.heap.size w (BX2 s A n c f dir w) := ((Below.refl _ _).alloc (Nat.le_refl _) _).alloc (by simp) _
theorem bx2_box (s : Nat → Int) (A : Option Addr) (n c : Nat) (f dir : Int) (w : World) : Box (BX2 s A n c f dir w) w.heap.size (scnC s A n c) := (box_new w (scnC s A n c) 51).next (Joins.below_alloc1 _ _)
theorem mul_le {f a b : Int} (h0 : 0 ≤ f) (h : f < a) (b0 : 0 ≤ b) : 0 ≤ f * b ∧ f * b ≤ (a - 1) * b := ⟨Int.mul_nonneg h0 b0, Int.mul_le_mul_of_nonneg_right (by omega) b0⟩
theorem rdZ_drew' {w : World} {m n : Nat} {A : Option Addr} {z : Nat → Nat → Int} (h : RdZ w m A n z) : RdZ w.drew m A n z := h
theorem keepn {w w1 : World} (hb : Below w.heap.size w w1) {b o : Nat} {v : Value} (h : w.cell? ⟨b, o, none⟩ = some v) : w1.cell? ⟨b, o, none⟩ = some v :=
  (hb.cell (p := ⟨b, o, none⟩) (lt_of_cell h)).trans h
set_option maxRecDepth 100000 in
set_option maxHeartbeats 4000000 in
theorem walk_out (s : Nat → Int) (A C : Option Addr) (n c k d : Nat) (z : Nat → Nat → Int) (v : Nat → Nat → Value) (f dir : Int) (w : World) (hr : RdZ w 3 A n z) (hv : RdV w 6 shCar C k v) (hkm : k ≤ 9223372036854775807) (ho : f < 0 ∨ s 0 ≤ f ∨ (dir ≠ 1 ∧ dir ≠ -1)) :
    Calls Try.prog 6 #[scnV s A n c, .slice C k d, .agg #[.int .i64 f, .int .i64 dir]] w fun e w' => e = .returned (.bool true) ∧ Below w.heap.size w w' := by
  obtain ⟨W, hW⟩ : ∃ W, BX2 s A n c f dir w = W := ⟨_, rfl⟩
  have HB0 := Lib.hid (show Below w.heap.size w W by rw [← hW]; exact bx2_below s A n c f dir w)
  have X0 := Lib.hid (show Box W w.heap.size (scnC s A n c) by rw [← hW]; exact bx2_box s A n c f dir w)
  have HW := Lib.hid (show (w.alloc (.cells #[.int .i64 (s 0), .int .i64 (s 1), .int .i64 (s 2), .int .i64 (s 3), .int .i64 (s 4), .int .i64 (s 5), .int .i64 (s 6), .int .i64 (s 7), .slice A n c, .int .i64 (s 9), .int .i64 (s 10), .int .i64 (s 11), .int .i64 (s 12)] 51)).alloc (.cells #[.int .i64 f, .int .i64 dir] 53) = W from hW)
  have HRV := Lib.hid (hv.kept HB0.out)
  have KW := Lib.hid (within_any s A C n c k d z v (W.drew) (rdZ_drew' (hr.kept HB0.out)) (rdV_drew HRV.out))
  unfold WithR at KW
  clear hr hv hW
  rcases (show f < 0 ∨ (0 ≤ f ∧ s 0 ≤ f) ∨ (0 ≤ f ∧ f < s 0 ∧ dir ≠ 1 ∧ dir ≠ -1) by omega) with h1 | ⟨h1, h2⟩ | ⟨h1, h2, h3, h4⟩
  · clear ho
    unfold scnV at KW ⊢
    go_enter Try.func6, Try.ntmps6
    go_wp2_with fail
    go_region
    go_wp2_with fail
    rw [HW.out]
    refine KW.out.mono ?_
    rintro e w1 ⟨b, rfl, hb1, hG⟩
    have B1 := Lib.hid (HB0.out.drew.trans (hb1.mono HB0.out.drew.size))
    have X1 := Lib.hid (Box.next (X := W.drew) X0.out hb1)
    have V1 := Lib.hid (RdV.kept (rdV_drew HRV.out) hb1)
    have hgs : w.heap.size < w1.heap.size := lt_of_cell (X1.out 0 _ rfl)
    have g0 : w1.cell? ⟨w.heap.size, 0, none⟩ = some (.int .i64 (s 0)) := X1.out 0 _ rfl
    clear hb1
    cases b
    · go_wp2_with fail
      go_ret
      exact ⟨rfl, B1.out⟩
    · go_wp2_with fail
      go_ret
      exact ⟨rfl, B1.out⟩
  · clear ho
    unfold scnV at KW ⊢
    go_enter Try.func6, Try.ntmps6
    go_wp2_with fail
    go_region
    go_wp2_with fail
    rw [HW.out]
    refine KW.out.mono ?_
    rintro e w1 ⟨b, rfl, hb1, hG⟩
    have B1 := Lib.hid (HB0.out.drew.trans (hb1.mono HB0.out.drew.size))
    have X1 := Lib.hid (Box.next (X := W.drew) X0.out hb1)
    have V1 := Lib.hid (RdV.kept (rdV_drew HRV.out) hb1)
    have hgs : w.heap.size < w1.heap.size := lt_of_cell (X1.out 0 _ rfl)
    have g0 : w1.cell? ⟨w.heap.size, 0, none⟩ = some (.int .i64 (s 0)) := X1.out 0 _ rfl
    clear hb1
    cases b
    · go_wp2_with fail
      go_ret
      exact ⟨rfl, B1.out⟩
    · go_wp2_with fail
      go_ret
      exact ⟨rfl, B1.out⟩
  · have b3 : (dir != 1) = true := by rw [bne_iff_ne]; exact h3
    have b4 : (dir != -1) = true := by rw [bne_iff_ne]; exact h4
    clear ho h3 h4
    unfold scnV at KW ⊢
    go_enter Try.func6, Try.ntmps6
    go_wp2_with fail
    go_region
    go_wp2_with fail
    rw [HW.out]
    refine KW.out.mono ?_
    rintro e w1 ⟨b, rfl, hb1, hG⟩
    have B1 := Lib.hid (HB0.out.drew.trans (hb1.mono HB0.out.drew.size))
    have X1 := Lib.hid (Box.next (X := W.drew) X0.out hb1)
    have V1 := Lib.hid (RdV.kept (rdV_drew HRV.out) hb1)
    have hgs : w.heap.size < w1.heap.size := lt_of_cell (X1.out 0 _ rfl)
    have g0 : w1.cell? ⟨w.heap.size, 0, none⟩ = some (.int .i64 (s 0)) := X1.out 0 _ rfl
    clear hb1
    cases b
    · go_wp2_with fail
      go_ret
      exact ⟨rfl, B1.out⟩
    · go_wp2_with fail
      go_ret
      exact ⟨rfl, B1.out⟩

set_option maxRecDepth 100000 in
set_option maxHeartbeats 8000000 in
theorem walk_in (s : Nat → Int) (A C : Option Addr) (n c k d : Nat) (z : Nat → Nat → Int) (v : Nat → Nat → Value) (f dir : Int) (w : World) (hr : RdZ w 3 A n z) (hv : RdV w 6 shCar C k v) (hkm : k ≤ 9223372036854775807) (f0 : 0 ≤ f) (f1 : f < s 0) (hd : dir = 1 ∨ dir = -1) :
    Calls Try.prog 6 #[scnV s A n c, .slice C k d, .agg #[.int .i64 f, .int .i64 dir]] w fun e w' => e = .returned (.bool true) ∧ Below w.heap.size w w' := by
  obtain ⟨W, hW⟩ : ∃ W, BX2 s A n c f dir w = W := ⟨_, rfl⟩
  have HB0 := Lib.hid (show Below w.heap.size w W by rw [← hW]; exact bx2_below s A n c f dir w)
  have X0 := Lib.hid (show Box W w.heap.size (scnC s A n c) by rw [← hW]; exact bx2_box s A n c f dir w)
  have HW := Lib.hid (show (w.alloc (.cells #[.int .i64 (s 0), .int .i64 (s 1), .int .i64 (s 2), .int .i64 (s 3), .int .i64 (s 4), .int .i64 (s 5), .int .i64 (s 6), .int .i64 (s 7), .slice A n c, .int .i64 (s 9), .int .i64 (s 10), .int .i64 (s 11), .int .i64 (s 12)] 51)).alloc (.cells #[.int .i64 f, .int .i64 dir] 53) = W from hW)
  have HRV := Lib.hid (hv.kept HB0.out)
  have KW := Lib.hid (within_any s A C n c k d z v (W.drew) (rdZ_drew' (hr.kept HB0.out)) (rdV_drew HRV.out))
  unfold WithR at KW
  clear hr hv hW
  have b3 : dir ≠ 1 → (dir != -1) = false := fun h => by rw [bne_eq_false_iff_eq]; omega
  rcases (show ((dir != 1) = false) ∨ ((dir != 1) = true ∧ (dir != -1) = false) by
    by_cases h : dir = 1
    · exact Or.inl (by rw [bne_eq_false_iff_eq]; exact h)
    · exact Or.inr ⟨by rw [bne_iff_ne]; exact h, b3 h⟩) with q1 | ⟨q1, q2⟩
  all_goals
    clear b3 hd
    unfold scnV at KW ⊢
    go_enter Try.func6, Try.ntmps6
    go_wp2_with fail
    go_region
    go_wp2_with fail
    rw [HW.out]
    refine KW.out.mono ?_
    rintro e w1 ⟨b, rfl, hb1, hG⟩
    have B1 := Lib.hid (HB0.out.drew.trans (hb1.mono HB0.out.drew.size))
    have X1 := Lib.hid (Box.next (X := W.drew) X0.out hb1)
    have V1 := Lib.hid (RdV.kept (rdV_drew HRV.out) hb1)
    have hgs : w.heap.size < w1.heap.size := lt_of_cell (X1.out 0 _ rfl)
    have g0 : w1.cell? ⟨w.heap.size, 0, none⟩ = some (.int .i64 (s 0)) := X1.out 0 _ rfl
    clear hb1
    cases b
    · go_wp2_with fail
      go_ret
      exact ⟨rfl, B1.out⟩
    · obtain ⟨hk, ⟨s00, s01⟩, ⟨s10, s11⟩, hI⟩ := hG rfl
      obtain ⟨m0, m1⟩ := mul_le f0 f1 (show 0 ≤ s 1 by omega)
      have t1 : (s 0 - 1) * s 1 ≤ 127 * 16 := Int.mul_le_mul (by omega) (by omega) (by omega) (by omega)
      obtain ⟨t, ht⟩ : ∃ t, (s 0 - 1) * s 1 = t := ⟨_, rfl⟩
      obtain ⟨m, hm⟩ : ∃ m, f * s 1 = m := ⟨_, rfl⟩
      rw [ht] at m1 t1 hI
      rw [hm] at m0 m1
      have HI := Lib.hid hI
      have KN := fun p q mo le bw R w (p0 : 0 ≤ p) (p1 : p ≤ t) (q0 : -1 ≤ q) (q1 : q ≤ 1) => cost_any s A n c p q mo le bw R f dir m t w hm m0 (by omega) ht (by omega) (by omega) (by omega) (by omega) p0 (by omega) q0 q1
      have KR := fun p q mo le bw R w (p0 : 0 ≤ p) (p1 : p ≤ t) (q0 : -1 ≤ q) (q1 : q ≤ 1) => rcost_any s A n c p q mo le bw R f dir m t w hm m0 (by omega) ht (by omega) (by omega) (by omega) (by omega) p0 (by omega) q0 q1
      have KB := fun w (h : RdV w 6 shCar C k v) => nbest_any s A C n c k d v f dir m t w h hk hI hm m0 m1 ht (by omega) (by omega) (by omega)
      have KD := fun w (h : RdV w 6 shCar C k v) => rbest_any s A C n c k d v f dir m t w h hk hI hm m0 m1 ht (by omega) (by omega) (by omega)
      obtain ⟨best, hbest⟩ : ∃ best, lstV (rowL (cstF v m t dir) k) k = best := ⟨_, rfl⟩
      simp only [hbest] at KB KD
      unfold scnV at KN KR KB KD
      have HN := Lib.hid KN
      have HR := Lib.hid KR
      have HB := Lib.hid KB
      have HD := Lib.hid KD
      have qb : (best == best) = true := by simp
      clear KN KR KB KD hbest hI hG ht hm
      go_wp2_with fail
      go_loopw [9] (fun i wr => ∃ j : Nat, j ≤ k ∧ i = .int .i64 j ∧ Below w1.heap.size w1 wr) (fun i _ => k - (intOf i).toNat)
      case atStart => exact ⟨0, by omega, rfl, Below.refl _ _⟩
      case round =>
        obtain ⟨j, hj, rfl, hb⟩ := hrel
        have HBJ := Lib.hid hb
        have hz := hb.size
        have X2 := X1.out.next hb
        have f0 : wr.cell? ⟨w.heap.size, 0, none⟩ = some (.int .i64 (s 0)) := X2 0 _ rfl
        have f1 : wr.cell? ⟨w.heap.size, 1, none⟩ = some (.int .i64 (s 1)) := X2 1 _ rfl
        have f2 : wr.cell? ⟨w.heap.size, 2, none⟩ = some (.int .i64 (s 2)) := X2 2 _ rfl
        have f3 : wr.cell? ⟨w.heap.size, 3, none⟩ = some (.int .i64 (s 3)) := X2 3 _ rfl
        have f4 : wr.cell? ⟨w.heap.size, 4, none⟩ = some (.int .i64 (s 4)) := X2 4 _ rfl
        have f5 : wr.cell? ⟨w.heap.size, 5, none⟩ = some (.int .i64 (s 5)) := X2 5 _ rfl
        have f6 : wr.cell? ⟨w.heap.size, 6, none⟩ = some (.int .i64 (s 6)) := X2 6 _ rfl
        have f7 : wr.cell? ⟨w.heap.size, 7, none⟩ = some (.int .i64 (s 7)) := X2 7 _ rfl
        have f8 : wr.cell? ⟨w.heap.size, 8, none⟩ = some (.slice A n c) := X2 8 _ rfl
        have f9 : wr.cell? ⟨w.heap.size, 9, none⟩ = some (.int .i64 (s 9)) := X2 9 _ rfl
        have f10 : wr.cell? ⟨w.heap.size, 10, none⟩ = some (.int .i64 (s 10)) := X2 10 _ rfl
        have f11 : wr.cell? ⟨w.heap.size, 11, none⟩ = some (.int .i64 (s 11)) := X2 11 _ rfl
        have f12 : wr.cell? ⟨w.heap.size, 12, none⟩ = some (.int .i64 (s 12)) := X2 12 _ rfl
        have RV := V1.out.kept hb
        by_cases h : j < k
        · obtain ⟨y, bw, R, rk, rc, e0, e1, e2, e3, e4, e5, rm, _, _⟩ := car_at RV h
          obtain ⟨b, off, rfl, hlt, hcl⟩ := rdV_row RV (by omega) (by omega)
          have c0 : wr.cell? ⟨b, off + j * 6, none⟩ = some (.int .i64 (y 0)) := (hcl j 0 h (by omega)).trans (by rw [e0])
          have c1 := (hcl j 1 h (by omega)).trans (congrArg some e1)
          have c2 := (hcl j 2 h (by omega)).trans (congrArg some e2)
          have c3 := (hcl j 3 h (by omega)).trans (congrArg some e3)
          have c4 := (hcl j 4 h (by omega)).trans (congrArg some e4)
          have c5 := (hcl j 5 h (by omega)).trans (congrArg some e5)
          obtain ⟨⟨i1, i2⟩, ⟨i3, i4⟩⟩ := HI.out j h
          rw [e0] at i1 i2
          rw [e1] at i3 i4
          have KJ := fun w => HN.out (y 0) (y 1) (y 2) (y 3) bw (.slice R rk rc) w i1 i2 i3 i4
          have KJ2 := fun w => HR.out (y 0) (y 1) (y 2) (y 3) bw (.slice R rk rc) w i1 i2 i3 i4
          obtain ⟨x, hx⟩ : ∃ x, costV (y 0) m t (y 1) dir = x := ⟨_, rfl⟩
          simp only [hx] at KJ KJ2
          obtain ⟨p, hp⟩ : ∃ p, y 0 = p := ⟨_, rfl⟩
          obtain ⟨q, hq⟩ : ∃ q, y 1 = q := ⟨_, rfl⟩
          obtain ⟨mo, hmo⟩ : ∃ p, y 2 = p := ⟨_, rfl⟩
          obtain ⟨le, hle⟩ : ∃ p, y 3 = p := ⟨_, rfl⟩
          simp only [hp, hq, hmo, hle] at KJ KJ2 c0 c1 c2 c3
          unfold carV at KJ KJ2
          have HK := Lib.hid KJ
          have HK2 := Lib.hid KJ2
          have qx : (x != x) = false := by simp
          have j0 : (0 : Int) ≤ (j : Int) := Int.natCast_nonneg _
          have j1 : (j : Int) < (k : Int) := by omega
          clear RV hcl e0 e1 e2 e3 e4 e5 X2 hp hq hmo hle KJ KJ2 hx i1 i2 i3 i4 hb
          go_wp2_with fail
          go_region_held3 (fun X => X.cell? ⟨w.heap.size, 0, none⟩ = some (.int .i64 (s 0)) ∧ X.cell? ⟨w.heap.size, 1, none⟩ = some (.int .i64 (s 1)) ∧ X.cell? ⟨w.heap.size, 2, none⟩ = some (.int .i64 (s 2)) ∧ X.cell? ⟨w.heap.size, 3, none⟩ = some (.int .i64 (s 3)) ∧ X.cell? ⟨w.heap.size, 4, none⟩ = some (.int .i64 (s 4)) ∧ X.cell? ⟨w.heap.size, 5, none⟩ = some (.int .i64 (s 5)) ∧ X.cell? ⟨w.heap.size, 6, none⟩ = some (.int .i64 (s 6)) ∧ X.cell? ⟨w.heap.size, 7, none⟩ = some (.int .i64 (s 7)) ∧ X.cell? ⟨w.heap.size, 8, none⟩ = some (.slice A n c) ∧ X.cell? ⟨w.heap.size, 9, none⟩ = some (.int .i64 (s 9)) ∧ X.cell? ⟨w.heap.size, 10, none⟩ = some (.int .i64 (s 10)) ∧ X.cell? ⟨w.heap.size, 11, none⟩ = some (.int .i64 (s 11)) ∧ X.cell? ⟨w.heap.size, 12, none⟩ = some (.int .i64 (s 12)) ∧ X.cell? ⟨b, off + j * 6, none⟩ = some (.int .i64 p) ∧ X.cell? ⟨b, off + j * 6 + 1, none⟩ = some (.int .i64 q) ∧ X.cell? ⟨b, off + j * 6 + 2, none⟩ = some (.int .i64 mo) ∧ X.cell? ⟨b, off + j * 6 + 3, none⟩ = some (.int .i64 le) ∧ X.cell? ⟨b, off + j * 6 + 4, none⟩ = some (.bool bw) ∧ X.cell? ⟨b, off + j * 6 + 5, none⟩ = some (.slice R rk rc))
            (go_keep)
            (first
              | (go_at_call 29; refine (HK.out _).mono ?_; rintro e w4 ⟨rfl, hb4⟩; have nf0 := Lib.hid (keepn hb4 f0); have nf1 := Lib.hid (keepn hb4 f1); have nf2 := Lib.hid (keepn hb4 f2); have nf3 := Lib.hid (keepn hb4 f3); have nf4 := Lib.hid (keepn hb4 f4); have nf5 := Lib.hid (keepn hb4 f5); have nf6 := Lib.hid (keepn hb4 f6); have nf7 := Lib.hid (keepn hb4 f7); have nf8 := Lib.hid (keepn hb4 f8); have nf9 := Lib.hid (keepn hb4 f9); have nf10 := Lib.hid (keepn hb4 f10); have nf11 := Lib.hid (keepn hb4 f11); have nf12 := Lib.hid (keepn hb4 f12); have nc0 := Lib.hid (keepn hb4 c0); have nc1 := Lib.hid (keepn hb4 c1); have nc2 := Lib.hid (keepn hb4 c2); have nc3 := Lib.hid (keepn hb4 c3); have nc4 := Lib.hid (keepn hb4 c4); have nc5 := Lib.hid (keepn hb4 c5); clear f0 f1 f2 f3 f4 f5 f6 f7 f8 f9 f10 f11 f12 c0 c1 c2 c3 c4 c5; have f0 := nf0.out; have f1 := nf1.out; have f2 := nf2.out; have f3 := nf3.out; have f4 := nf4.out; have f5 := nf5.out; have f6 := nf6.out; have f7 := nf7.out; have f8 := nf8.out; have f9 := nf9.out; have f10 := nf10.out; have f11 := nf11.out; have f12 := nf12.out; have c0 := nc0.out; have c1 := nc1.out; have c2 := nc2.out; have c3 := nc3.out; have c4 := nc4.out; have c5 := nc5.out;)
              | (go_at_call 30; refine (HK2.out _).mono ?_; rintro e w5 ⟨rfl, hb5⟩; have nf0 := Lib.hid (keepn hb5 f0); have nf1 := Lib.hid (keepn hb5 f1); have nf2 := Lib.hid (keepn hb5 f2); have nf3 := Lib.hid (keepn hb5 f3); have nf4 := Lib.hid (keepn hb5 f4); have nf5 := Lib.hid (keepn hb5 f5); have nf6 := Lib.hid (keepn hb5 f6); have nf7 := Lib.hid (keepn hb5 f7); have nf8 := Lib.hid (keepn hb5 f8); have nf9 := Lib.hid (keepn hb5 f9); have nf10 := Lib.hid (keepn hb5 f10); have nf11 := Lib.hid (keepn hb5 f11); have nf12 := Lib.hid (keepn hb5 f12); have nc0 := Lib.hid (keepn hb5 c0); have nc1 := Lib.hid (keepn hb5 c1); have nc2 := Lib.hid (keepn hb5 c2); have nc3 := Lib.hid (keepn hb5 c3); have nc4 := Lib.hid (keepn hb5 c4); have nc5 := Lib.hid (keepn hb5 c5); clear f0 f1 f2 f3 f4 f5 f6 f7 f8 f9 f10 f11 f12 c0 c1 c2 c3 c4 c5; have f0 := nf0.out; have f1 := nf1.out; have f2 := nf2.out; have f3 := nf3.out; have f4 := nf4.out; have f5 := nf5.out; have f6 := nf6.out; have f7 := nf7.out; have f8 := nf8.out; have f9 := nf9.out; have f10 := nf10.out; have f11 := nf11.out; have f12 := nf12.out; have c0 := nc0.out; have c1 := nc1.out; have c2 := nc2.out; have c3 := nc3.out; have c4 := nc4.out; have c5 := nc5.out;))
          have u4 : Below w1.heap.size w1 w4 := HBJ.out.drew.trans (hb4.mono HBJ.out.drew.size)
          have u5 : Below w1.heap.size w1 w5 := u4.trans (hb5.mono u4.size)
          have U5 := Lib.hid u5
          clear u4 u5 hb4 hb5
          go_wp2_with fail
          go_roundw
          case rel => exact ⟨j + 1, by omega, by go_num, U5.out⟩
          case measure => simp [intOf]; omega
        · obtain rfl : j = k := by omega
          have HRV1 := Lib.hid RV
          clear RV X2 hb
          go_wp2_with fail
          go_region_held3 (fun X => X.cell? ⟨w.heap.size, 0, none⟩ = some (.int .i64 (s 0)) ∧ X.cell? ⟨w.heap.size, 1, none⟩ = some (.int .i64 (s 1)) ∧ X.cell? ⟨w.heap.size, 2, none⟩ = some (.int .i64 (s 2)) ∧ X.cell? ⟨w.heap.size, 3, none⟩ = some (.int .i64 (s 3)) ∧ X.cell? ⟨w.heap.size, 4, none⟩ = some (.int .i64 (s 4)) ∧ X.cell? ⟨w.heap.size, 5, none⟩ = some (.int .i64 (s 5)) ∧ X.cell? ⟨w.heap.size, 6, none⟩ = some (.int .i64 (s 6)) ∧ X.cell? ⟨w.heap.size, 7, none⟩ = some (.int .i64 (s 7)) ∧ X.cell? ⟨w.heap.size, 8, none⟩ = some (.slice A n c) ∧ X.cell? ⟨w.heap.size, 9, none⟩ = some (.int .i64 (s 9)) ∧ X.cell? ⟨w.heap.size, 10, none⟩ = some (.int .i64 (s 10)) ∧ X.cell? ⟨w.heap.size, 11, none⟩ = some (.int .i64 (s 11)) ∧ X.cell? ⟨w.heap.size, 12, none⟩ = some (.int .i64 (s 12)))
            (go_keep)
            (first
              | (go_at_call 31; refine (HB.out wr.drew (rdV_drew HRV1.out)).mono ?_; rintro e w4 ⟨rfl, hb4⟩; have R4 := Lib.hid ((rdV_drew HRV1.out).kept hb4); have nf0 := Lib.hid (keepn hb4 f0); have nf1 := Lib.hid (keepn hb4 f1); have nf2 := Lib.hid (keepn hb4 f2); have nf3 := Lib.hid (keepn hb4 f3); have nf4 := Lib.hid (keepn hb4 f4); have nf5 := Lib.hid (keepn hb4 f5); have nf6 := Lib.hid (keepn hb4 f6); have nf7 := Lib.hid (keepn hb4 f7); have nf8 := Lib.hid (keepn hb4 f8); have nf9 := Lib.hid (keepn hb4 f9); have nf10 := Lib.hid (keepn hb4 f10); have nf11 := Lib.hid (keepn hb4 f11); have nf12 := Lib.hid (keepn hb4 f12); clear f0 f1 f2 f3 f4 f5 f6 f7 f8 f9 f10 f11 f12; have f0 := nf0.out; have f1 := nf1.out; have f2 := nf2.out; have f3 := nf3.out; have f4 := nf4.out; have f5 := nf5.out; have f6 := nf6.out; have f7 := nf7.out; have f8 := nf8.out; have f9 := nf9.out; have f10 := nf10.out; have f11 := nf11.out; have f12 := nf12.out;)
              | (go_at_call 32; refine (HD.out _ R4.out).mono ?_; rintro e w5 ⟨rfl, hb5⟩; have nf0 := Lib.hid (keepn hb5 f0); have nf1 := Lib.hid (keepn hb5 f1); have nf2 := Lib.hid (keepn hb5 f2); have nf3 := Lib.hid (keepn hb5 f3); have nf4 := Lib.hid (keepn hb5 f4); have nf5 := Lib.hid (keepn hb5 f5); have nf6 := Lib.hid (keepn hb5 f6); have nf7 := Lib.hid (keepn hb5 f7); have nf8 := Lib.hid (keepn hb5 f8); have nf9 := Lib.hid (keepn hb5 f9); have nf10 := Lib.hid (keepn hb5 f10); have nf11 := Lib.hid (keepn hb5 f11); have nf12 := Lib.hid (keepn hb5 f12); clear f0 f1 f2 f3 f4 f5 f6 f7 f8 f9 f10 f11 f12; have f0 := nf0.out; have f1 := nf1.out; have f2 := nf2.out; have f3 := nf3.out; have f4 := nf4.out; have f5 := nf5.out; have f6 := nf6.out; have f7 := nf7.out; have f8 := nf8.out; have f9 := nf9.out; have f10 := nf10.out; have f11 := nf11.out; have f12 := nf12.out;)
              | (go_at_call 27; refine (nalive _).mono ?_; rintro e w6 ⟨rfl, hb6⟩; have nf0 := Lib.hid (keepn hb6 f0); have nf1 := Lib.hid (keepn hb6 f1); have nf2 := Lib.hid (keepn hb6 f2); have nf3 := Lib.hid (keepn hb6 f3); have nf4 := Lib.hid (keepn hb6 f4); have nf5 := Lib.hid (keepn hb6 f5); have nf6 := Lib.hid (keepn hb6 f6); have nf7 := Lib.hid (keepn hb6 f7); have nf8 := Lib.hid (keepn hb6 f8); have nf9 := Lib.hid (keepn hb6 f9); have nf10 := Lib.hid (keepn hb6 f10); have nf11 := Lib.hid (keepn hb6 f11); have nf12 := Lib.hid (keepn hb6 f12); clear f0 f1 f2 f3 f4 f5 f6 f7 f8 f9 f10 f11 f12; have f0 := nf0.out; have f1 := nf1.out; have f2 := nf2.out; have f3 := nf3.out; have f4 := nf4.out; have f5 := nf5.out; have f6 := nf6.out; have f7 := nf7.out; have f8 := nf8.out; have f9 := nf9.out; have f10 := nf10.out; have f11 := nf11.out; have f12 := nf12.out;))
          have u4 : Below w1.heap.size w1 w4 := HBJ.out.drew.trans (hb4.mono HBJ.out.drew.size)
          have u5 : Below w1.heap.size w1 w5 := u4.trans (hb5.mono u4.size)
          have u6 : Below w1.heap.size w1 w6 := u5.trans (hb6.mono u5.size)
          have U6 := Lib.hid (B1.out.trans (u6.mono B1.out.size))
          clear u4 u5 u6 hb4 hb5 hb6
          go_wp2_with fail
          go_ret
          exact ⟨rfl, U6.out⟩

theorem walk {s0 s1 s2 s3 s4 s5 s6 s7 s9 s10 s11 s12 : Int} {A : Option Addr} {c n : Nat} {z : Nat → Nat → Int} {C : Option Addr} {d k : Nat} {v : Nat → Nat → Value} {f dir : Int} {w : World} (_ : (Lit.int .i64 s0).wf = true) (_ : (Lit.int .i64 s1).wf = true) (_ : (Lit.int .i64 s2).wf = true) (_ : (Lit.int .i64 s3).wf = true) (_ : (Lit.int .i64 s4).wf = true) (_ : (Lit.int .i64 s5).wf = true) (_ : (Lit.int .i64 s6).wf = true) (_ : (Lit.int .i64 s7).wf = true) (hl : n ≤ c) (hm : c ≤ maxLen) (hr : RdZ w 3 A n z) (_ : A = none → c = 0) (_ : (Lit.int .i64 s9).wf = true) (_ : (Lit.int .i64 s10).wf = true) (_ : (Lit.int .i64 s11).wf = true) (_ : (Lit.int .i64 s12).wf = true) (hk : k ≤ d) (hd : d ≤ maxLen) (hv : RdV w 6 shCar C k v) (_ : C = none → d = 0) (_ : (Lit.int .i64 f).wf = true) (_ : (Lit.int .i64 dir).wf = true) :
    Calls Try.prog 6 #[.agg #[.int .i64 s0, .int .i64 s1, .int .i64 s2, .int .i64 s3, .int .i64 s4, .int .i64 s5, .int .i64 s6, .int .i64 s7, .slice A n c, .int .i64 s9, .int .i64 s10, .int .i64 s11, .int .i64 s12], .slice C k d, .agg #[.int .i64 f, .int .i64 dir]] w fun e w' => e = .returned (.bool true) ∧ Below w.heap.size w w' := by
  obtain ⟨s, hs⟩ : ∃ s : Nat → Int, s 0 = s0 ∧ s 1 = s1 ∧ s 2 = s2 ∧ s 3 = s3 ∧ s 4 = s4 ∧ s 5 = s5 ∧ s 6 = s6 ∧ s 7 = s7 ∧ s 9 = s9 ∧ s 10 = s10 ∧ s 11 = s11 ∧ s 12 = s12 :=
    ⟨fun j => if j = 0 then s0 else if j = 1 then s1 else if j = 2 then s2 else if j = 3 then s3 else if j = 4 then s4 else if j = 5 then s5 else if j = 6 then s6 else if j = 7 then s7 else if j = 9 then s9 else if j = 10 then s10 else if j = 11 then s11 else s12, rfl, rfl, rfl, rfl, rfl, rfl, rfl, rfl, rfl, rfl, rfl, rfl⟩
  obtain ⟨rfl, rfl, rfl, rfl, rfl, rfl, rfl, rfl, rfl, rfl, rfl, rfl⟩ := hs
  unfold maxLen at hd
  by_cases h : 0 ≤ f ∧ f < s 0 ∧ (dir = 1 ∨ dir = -1)
  · exact walk_in s A C n c k d z v f dir w hr hv (by omega) h.1 h.2.1 h.2.2
  · exact walk_out s A C n c k d z v f dir w hr hv (by omega) (by omega)

end Go.Proofs.Ytcofafiacpecnaa.nearTells
