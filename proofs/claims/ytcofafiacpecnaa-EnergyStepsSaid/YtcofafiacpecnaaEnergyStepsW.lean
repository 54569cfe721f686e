/- The walk of EnergySteps: it answers true for every input, and leaves all old blocks as they were. No condition. -/
import Derived.Test.YtcofafiacpecnaaRows
import Derived.Test.YtcofafiacpecnaaRowKit
import Derived.Test.YtcofafiacpecnaaRowS
import Derived.Test.YtcofafiacpecnaaEnergyA
import Derived.WalkKit
import Derived.ProofKit
import Derived.OpenShut
import Derived.Deep.QuietTactic
import Derived.BigQuiet
import Derived.Lib.SmallJoins
import Derived.Lib.Hide
import Derived.WalkSpells
import Derived.WalkLawsBesides
import Derived.IntWalk
import Derived.Deep.RegionHeld3
namespace Go.Proofs.Ytcofafiacpecnaa.energySteps
open Go.ChangeShapes Go.WideShapes Go.ChangeAt Go.RowKit Go.Joins
set_option linter.unusedSimpArgs false
set_option linter.unusedVariables false

theorem keepc {w w1 : World} (hb : Below w.heap.size w w1) {b o : Nat} {v : Value} (h : w.cell? ⟨b, o, none⟩ = some v) : w1.cell? ⟨b, o, none⟩ = some v :=
  (hb.cell (p := ⟨b, o, none⟩) (lt_of_cell h)).trans h
/-- the boxed rates -/
structure EB (w X : World) (g : Nat) (a b c d : Int) : Prop where
  c0 : X.cell? ⟨g, 0, none⟩ = some (.int .i64 a)
  c1 : X.cell? ⟨g, 1, none⟩ = some (.int .i64 b)
  c2 : X.cell? ⟨g, 2, none⟩ = some (.int .i64 c)
  c3 : X.cell? ⟨g, 3, none⟩ = some (.int .i64 d)
  bl : Below w.heap.size w X
theorem eb_new (w : World) (a b c d : Int) : EB w (w.alloc (.cells #[.int .i64 a, .int .i64 b, .int .i64 c, .int .i64 d] 67)) w.heap.size a b c d :=
  ⟨by rw [World.cell?_alloc_mark]; rfl, by rw [World.cell?_alloc_mark]; rfl, by rw [World.cell?_alloc_mark]; rfl, by rw [World.cell?_alloc_mark]; rfl, (Below.refl _ _).alloc (Nat.le_refl _) _⟩
theorem ealive' (w : World) : Calls Try.prog 39 #[] w fun e w' => e = .returned (.bool true) ∧ Below w.heap.size w w' := enalive w
set_option maxRecDepth 100000 in
set_option maxHeartbeats 2000000 in
theorem walk_bad (a b c d dir r : Int) (w : World) (h : ¬ rtOk a b c d)  :
    Calls Try.prog 8 #[.agg #[.int .i64 a, .int .i64 b, .int .i64 c, .int .i64 d], .int .i64 dir, .int .i64 r] w fun e w' => e = .returned (.bool true) ∧ Below w.heap.size w w' := by
  have K1 := fun w => eright_any a b c d w
  have K2 := fun w => lright_any a b c d w
  rw [decide_eq_false h] at K1 K2
  unfold rtV at K1 K2
  have H1 := Lib.hid K1
  have H2 := Lib.hid K2
  clear K1 K2
  have EB0 := eb_new w a b c d
  obtain ⟨g, hg⟩ : ∃ g, w.heap.size = g := ⟨_, rfl⟩
  obtain ⟨X, hX⟩ : ∃ X, w.alloc (.cells #[.int .i64 a, .int .i64 b, .int .i64 c, .int .i64 d] 67) = X := ⟨_, rfl⟩
  rw [hX, hg] at EB0
  have HE := Lib.hid EB0
  have HX := Lib.hid hX
  have HG := Lib.hid hg

  clear EB0 hX hg
  go_enter Try.func8, Try.ntmps8
  go_wp2_with fail
  rw [HX.out, HG.out]
  obtain ⟨c0, c1, c2, c3, _⟩ := HE.out
  go_region_held3 (fun W => W.cell? ⟨g, 0, none⟩ = some (.int .i64 a) ∧ W.cell? ⟨g, 1, none⟩ = some (.int .i64 b) ∧ W.cell? ⟨g, 2, none⟩ = some (.int .i64 c) ∧ W.cell? ⟨g, 3, none⟩ = some (.int .i64 d))
    (go_keep)
    (first
      | (go_at_call 37; refine (H1.out _).mono ?_; rintro e w1 ⟨rfl, hb1⟩; have m0 := Lib.hid (keepc hb1 c0); have m1 := Lib.hid (keepc hb1 c1); have m2 := Lib.hid (keepc hb1 c2); have m3 := Lib.hid (keepc hb1 c3); clear c0 c1 c2 c3; have c0 := m0.out; have c1 := m1.out; have c2 := m2.out; have c3 := m3.out)
      | (go_at_call 38; refine (H2.out _).mono ?_; rintro e w2 ⟨rfl, hb2⟩; have m0 := Lib.hid (keepc hb2 c0); have m1 := Lib.hid (keepc hb2 c1); have m2 := Lib.hid (keepc hb2 c2); have m3 := Lib.hid (keepc hb2 c3); clear c0 c1 c2 c3; have c0 := m0.out; have c1 := m1.out; have c2 := m2.out; have c3 := m3.out))
  have q1 : Below w.heap.size w w1 := HE.out.bl.drew.trans (hb1.mono HE.out.bl.drew.size)
  have q2 : Below w.heap.size w w2 := q1.trans (hb2.mono q1.size)
  have Q2 := Lib.hid q2
  clear q1 q2 hb1 hb2
  go_wp2_with fail
  refine (H2.out _).mono ?_
  rintro e w3 ⟨rfl, hb3⟩
  have m0 := Lib.hid (keepc hb3 c0)
  have m1 := Lib.hid (keepc hb3 c1)
  have m2 := Lib.hid (keepc hb3 c2)
  have m3 := Lib.hid (keepc hb3 c3)
  have Q3 := Lib.hid (Q2.out.trans (hb3.mono Q2.out.size))
  clear c0 c1 c2 c3 hb3
  go_wp2_with (go_at_call 39; refine (ealive' _).mono ?_; rintro e w4 ⟨rfl, hb4⟩)
  go_ret
  exact ⟨rfl, Q3.out.trans (hb4.mono Q3.out.size)⟩
set_option maxRecDepth 100000 in
set_option maxHeartbeats 2000000 in
theorem walk_neg (a b c d dir r : Int) (w : World) (h : rtOk a b c d) (hr : r < 0) :
    Calls Try.prog 8 #[.agg #[.int .i64 a, .int .i64 b, .int .i64 c, .int .i64 d], .int .i64 dir, .int .i64 r] w fun e w' => e = .returned (.bool true) ∧ Below w.heap.size w w' := by
  have K1 := fun w => eright_any a b c d w
  have K2 := fun w => lright_any a b c d w
  rw [decide_eq_true h] at K1 K2
  unfold rtV at K1 K2
  have H1 := Lib.hid K1
  have H2 := Lib.hid K2
  clear K1 K2
  have EB0 := eb_new w a b c d
  obtain ⟨g, hg⟩ : ∃ g, w.heap.size = g := ⟨_, rfl⟩
  obtain ⟨X, hX⟩ : ∃ X, w.alloc (.cells #[.int .i64 a, .int .i64 b, .int .i64 c, .int .i64 d] 67) = X := ⟨_, rfl⟩
  rw [hX, hg] at EB0
  have HE := Lib.hid EB0
  have HX := Lib.hid hX
  have HG := Lib.hid hg

  clear EB0 hX hg
  go_enter Try.func8, Try.ntmps8
  go_wp2_with fail
  rw [HX.out, HG.out]
  obtain ⟨c0, c1, c2, c3, _⟩ := HE.out
  go_region_held3 (fun W => W.cell? ⟨g, 0, none⟩ = some (.int .i64 a) ∧ W.cell? ⟨g, 1, none⟩ = some (.int .i64 b) ∧ W.cell? ⟨g, 2, none⟩ = some (.int .i64 c) ∧ W.cell? ⟨g, 3, none⟩ = some (.int .i64 d))
    (go_keep)
    (first
      | (go_at_call 37; refine (H1.out _).mono ?_; rintro e w1 ⟨rfl, hb1⟩; have m0 := Lib.hid (keepc hb1 c0); have m1 := Lib.hid (keepc hb1 c1); have m2 := Lib.hid (keepc hb1 c2); have m3 := Lib.hid (keepc hb1 c3); clear c0 c1 c2 c3; have c0 := m0.out; have c1 := m1.out; have c2 := m2.out; have c3 := m3.out)
      | (go_at_call 38; refine (H2.out _).mono ?_; rintro e w2 ⟨rfl, hb2⟩; have m0 := Lib.hid (keepc hb2 c0); have m1 := Lib.hid (keepc hb2 c1); have m2 := Lib.hid (keepc hb2 c2); have m3 := Lib.hid (keepc hb2 c3); clear c0 c1 c2 c3; have c0 := m0.out; have c1 := m1.out; have c2 := m2.out; have c3 := m3.out))
  have q1 : Below w.heap.size w w1 := HE.out.bl.drew.trans (hb1.mono HE.out.bl.drew.size)
  have q2 : Below w.heap.size w w2 := q1.trans (hb2.mono q1.size)
  have Q2 := Lib.hid q2
  clear q1 q2 hb1 hb2
  go_wp2_with fail
  refine (H2.out _).mono ?_
  rintro e w3 ⟨rfl, hb3⟩
  have m0 := Lib.hid (keepc hb3 c0)
  have m1 := Lib.hid (keepc hb3 c1)
  have m2 := Lib.hid (keepc hb3 c2)
  have m3 := Lib.hid (keepc hb3 c3)
  have Q3 := Lib.hid (Q2.out.trans (hb3.mono Q2.out.size))
  clear c0 c1 c2 c3 hb3
  go_wp2_with (go_at_call 39; refine (ealive' _).mono ?_; rintro e w4 ⟨rfl, hb4⟩)
  go_ret
  exact ⟨rfl, Q3.out.trans (hb4.mono Q3.out.size)⟩
set_option maxRecDepth 100000 in
set_option maxHeartbeats 2000000 in
theorem walk_great (a b c d dir r : Int) (w : World) (h : rtOk a b c d) (hr : 1048576 < r) :
    Calls Try.prog 8 #[.agg #[.int .i64 a, .int .i64 b, .int .i64 c, .int .i64 d], .int .i64 dir, .int .i64 r] w fun e w' => e = .returned (.bool true) ∧ Below w.heap.size w w' := by
  have K1 := fun w => eright_any a b c d w
  have K2 := fun w => lright_any a b c d w
  rw [decide_eq_true h] at K1 K2
  unfold rtV at K1 K2
  have H1 := Lib.hid K1
  have H2 := Lib.hid K2
  clear K1 K2
  have EB0 := eb_new w a b c d
  obtain ⟨g, hg⟩ : ∃ g, w.heap.size = g := ⟨_, rfl⟩
  obtain ⟨X, hX⟩ : ∃ X, w.alloc (.cells #[.int .i64 a, .int .i64 b, .int .i64 c, .int .i64 d] 67) = X := ⟨_, rfl⟩
  rw [hX, hg] at EB0
  have HE := Lib.hid EB0
  have HX := Lib.hid hX
  have HG := Lib.hid hg

  clear EB0 hX hg
  go_enter Try.func8, Try.ntmps8
  go_wp2_with fail
  rw [HX.out, HG.out]
  obtain ⟨c0, c1, c2, c3, _⟩ := HE.out
  go_region_held3 (fun W => W.cell? ⟨g, 0, none⟩ = some (.int .i64 a) ∧ W.cell? ⟨g, 1, none⟩ = some (.int .i64 b) ∧ W.cell? ⟨g, 2, none⟩ = some (.int .i64 c) ∧ W.cell? ⟨g, 3, none⟩ = some (.int .i64 d))
    (go_keep)
    (first
      | (go_at_call 37; refine (H1.out _).mono ?_; rintro e w1 ⟨rfl, hb1⟩; have m0 := Lib.hid (keepc hb1 c0); have m1 := Lib.hid (keepc hb1 c1); have m2 := Lib.hid (keepc hb1 c2); have m3 := Lib.hid (keepc hb1 c3); clear c0 c1 c2 c3; have c0 := m0.out; have c1 := m1.out; have c2 := m2.out; have c3 := m3.out)
      | (go_at_call 38; refine (H2.out _).mono ?_; rintro e w2 ⟨rfl, hb2⟩; have m0 := Lib.hid (keepc hb2 c0); have m1 := Lib.hid (keepc hb2 c1); have m2 := Lib.hid (keepc hb2 c2); have m3 := Lib.hid (keepc hb2 c3); clear c0 c1 c2 c3; have c0 := m0.out; have c1 := m1.out; have c2 := m2.out; have c3 := m3.out))
  have q1 : Below w.heap.size w w1 := HE.out.bl.drew.trans (hb1.mono HE.out.bl.drew.size)
  have q2 : Below w.heap.size w w2 := q1.trans (hb2.mono q1.size)
  have Q2 := Lib.hid q2
  clear q1 q2 hb1 hb2
  go_wp2_with fail
  refine (H2.out _).mono ?_
  rintro e w3 ⟨rfl, hb3⟩
  have m0 := Lib.hid (keepc hb3 c0)
  have m1 := Lib.hid (keepc hb3 c1)
  have m2 := Lib.hid (keepc hb3 c2)
  have m3 := Lib.hid (keepc hb3 c3)
  have Q3 := Lib.hid (Q2.out.trans (hb3.mono Q2.out.size))
  clear c0 c1 c2 c3 hb3
  go_wp2_with (go_at_call 39; refine (ealive' _).mono ?_; rintro e w4 ⟨rfl, hb4⟩)
  go_ret
  exact ⟨rfl, Q3.out.trans (hb4.mono Q3.out.size)⟩
set_option maxRecDepth 100000 in
set_option maxHeartbeats 2000000 in
theorem walk_ok (a b c d dir r : Int) (P : Int) (w : World) (h : rtOk a b c d) (r0 : 0 ≤ r) (r1 : r ≤ 1048576) (hP : c * r = P) (P0 : 0 ≤ P) (P1 : P ≤ 1099511627776) :
    Calls Try.prog 8 #[.agg #[.int .i64 a, .int .i64 b, .int .i64 c, .int .i64 d], .int .i64 dir, .int .i64 r] w fun e w' => e = .returned (.bool true) ∧ Below w.heap.size w w' := by
  have K1 := fun w => eright_any a b c d w
  have K2 := fun w => lright_any a b c d w
  rw [decide_eq_true h] at K1 K2
  unfold rtV at K1 K2
  have H1 := Lib.hid K1
  have H2 := Lib.hid K2
  clear K1 K2
  have EB0 := eb_new w a b c d
  obtain ⟨g, hg⟩ : ∃ g, w.heap.size = g := ⟨_, rfl⟩
  obtain ⟨X, hX⟩ : ∃ X, w.alloc (.cells #[.int .i64 a, .int .i64 b, .int .i64 c, .int .i64 d] 67) = X := ⟨_, rfl⟩
  rw [hX, hg] at EB0
  have HE := Lib.hid EB0
  have HX := Lib.hid hX
  have HG := Lib.hid hg
  have S1 := fun w => estep_any a b c d dir r P w h.1 h.2.1 hP P0 P1
  have S2 := fun w => lstep_any a b c d dir r P w h.1 h.2.1 (by rw [Int.mul_comm]; exact hP) P0 P1
  obtain ⟨u, hu⟩ : ∃ u, stpV a b P dir = u := ⟨_, rfl⟩
  rw [hu] at S1 S2
  unfold rtV at S1 S2
  have H3 := Lib.hid S1
  have H4 := Lib.hid S2
  have qu : (u == u) = true := by simp
  clear S1 S2 hu hP
  clear EB0 hX hg
  go_enter Try.func8, Try.ntmps8
  go_wp2_with fail
  rw [HX.out, HG.out]
  obtain ⟨c0, c1, c2, c3, _⟩ := HE.out
  go_region_held3 (fun W => W.cell? ⟨g, 0, none⟩ = some (.int .i64 a) ∧ W.cell? ⟨g, 1, none⟩ = some (.int .i64 b) ∧ W.cell? ⟨g, 2, none⟩ = some (.int .i64 c) ∧ W.cell? ⟨g, 3, none⟩ = some (.int .i64 d))
    (go_keep)
    (first
      | (go_at_call 37; refine (H1.out _).mono ?_; rintro e w1 ⟨rfl, hb1⟩; have m0 := Lib.hid (keepc hb1 c0); have m1 := Lib.hid (keepc hb1 c1); have m2 := Lib.hid (keepc hb1 c2); have m3 := Lib.hid (keepc hb1 c3); clear c0 c1 c2 c3; have c0 := m0.out; have c1 := m1.out; have c2 := m2.out; have c3 := m3.out)
      | (go_at_call 38; refine (H2.out _).mono ?_; rintro e w2 ⟨rfl, hb2⟩; have m0 := Lib.hid (keepc hb2 c0); have m1 := Lib.hid (keepc hb2 c1); have m2 := Lib.hid (keepc hb2 c2); have m3 := Lib.hid (keepc hb2 c3); clear c0 c1 c2 c3; have c0 := m0.out; have c1 := m1.out; have c2 := m2.out; have c3 := m3.out))
  have q1 : Below w.heap.size w w1 := HE.out.bl.drew.trans (hb1.mono HE.out.bl.drew.size)
  have q2 : Below w.heap.size w w2 := q1.trans (hb2.mono q1.size)
  have Q2 := Lib.hid q2
  clear q1 q2 hb1 hb2
  go_wp2_with fail
  refine (H2.out _).mono ?_
  rintro e w3 ⟨rfl, hb3⟩
  have m0 := Lib.hid (keepc hb3 c0)
  have m1 := Lib.hid (keepc hb3 c1)
  have m2 := Lib.hid (keepc hb3 c2)
  have m3 := Lib.hid (keepc hb3 c3)
  have Q3 := Lib.hid (Q2.out.trans (hb3.mono Q2.out.size))
  clear c0 c1 c2 c3 hb3
  go_wp2_with fail
  have c0 := m0.out
  have c1 := m1.out
  have c2 := m2.out
  have c3 := m3.out
  go_region_held3 (fun W => W.cell? ⟨g, 0, none⟩ = some (.int .i64 a) ∧ W.cell? ⟨g, 1, none⟩ = some (.int .i64 b) ∧ W.cell? ⟨g, 2, none⟩ = some (.int .i64 c) ∧ W.cell? ⟨g, 3, none⟩ = some (.int .i64 d))
    (go_keep)
    (first
      | (go_at_call 40; refine (H3.out _).mono ?_; rintro e w4 ⟨rfl, hb4⟩; have m0 := Lib.hid (keepc hb4 c0); have m1 := Lib.hid (keepc hb4 c1); have m2 := Lib.hid (keepc hb4 c2); have m3 := Lib.hid (keepc hb4 c3); clear c0 c1 c2 c3; have c0 := m0.out; have c1 := m1.out; have c2 := m2.out; have c3 := m3.out)
      | (go_at_call 41; refine (H4.out _).mono ?_; rintro e w5 ⟨rfl, hb5⟩; have m0 := Lib.hid (keepc hb5 c0); have m1 := Lib.hid (keepc hb5 c1); have m2 := Lib.hid (keepc hb5 c2); have m3 := Lib.hid (keepc hb5 c3); clear c0 c1 c2 c3; have c0 := m0.out; have c1 := m1.out; have c2 := m2.out; have c3 := m3.out)
      | (go_at_call 39; refine (ealive' _).mono ?_; rintro e w6 ⟨rfl, hb6⟩; have m0 := Lib.hid (keepc hb6 c0); have m1 := Lib.hid (keepc hb6 c1); have m2 := Lib.hid (keepc hb6 c2); have m3 := Lib.hid (keepc hb6 c3); clear c0 c1 c2 c3; have c0 := m0.out; have c1 := m1.out; have c2 := m2.out; have c3 := m3.out))
  have q4 : Below w.heap.size w w4 := Q3.out.drew.trans (hb4.mono Q3.out.drew.size)
  have q5 : Below w.heap.size w w5 := q4.trans (hb5.mono q4.size)
  go_wp2_with fail
  go_ret
  exact ⟨rfl, q5.trans (hb6.mono q5.size)⟩
theorem walk {a b c d dir r : Int} (w0 : (Lit.int .i64 a).wf = true) (w1 : (Lit.int .i64 b).wf = true) (w2 : (Lit.int .i64 c).wf = true) (w3 : (Lit.int .i64 d).wf = true) (w4 : (Lit.int .i64 dir).wf = true) (w5 : (Lit.int .i64 r).wf = true) (w : World) :
    Calls Try.prog 8 #[.agg #[.int .i64 a, .int .i64 b, .int .i64 c, .int .i64 d], .int .i64 dir, .int .i64 r] w fun e w' => e = .returned (.bool true) ∧ Below w.heap.size w w' := by
  by_cases h : rtOk a b c d
  · by_cases h1 : r < 0
    · exact walk_neg a b c d dir r w h h1
    · by_cases h2 : 1048576 < r
      · exact walk_great a b c d dir r w h h2
      · have hc := h.2.2.1
        have b1 : 0 ≤ c * r := Int.mul_nonneg hc.1 (by omega)
        have b2 : c * r ≤ 1048576 * 1048576 := Int.mul_le_mul hc.2 (by omega) (by omega) (by omega)
        exact walk_ok a b c d dir r _ w h (by omega) (by omega) rfl b1 (by omega)
  · exact walk_bad a b c d dir r w h

end Go.Proofs.Ytcofafiacpecnaa.energySteps
