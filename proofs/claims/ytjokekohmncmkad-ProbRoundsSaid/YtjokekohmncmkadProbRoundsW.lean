/- The walk of ProbRounds: it answers true for every input, and leaves all old blocks as they were. No condition. -/
import Derived.Test.YtjokekohmncmkadRows
import Derived.Test.YtjokekohmncmkadRowKit
import Derived.Test.YtjokekohmncmkadRowS
import Derived.Test.YtjokekohmncmkadProbMath
import Derived.Test.YtjokekohmncmkadProbA
import Derived.Test.YtjokekohmncmkadProbB
import Derived.Test.YtjokekohmncmkadProbC
import Derived.Test.YtjokekohmncmkadProbD
import Derived.WalkKit
import Derived.ProofKit
import Derived.OpenShut
import Derived.Deep.QuietTactic
import Derived.BigQuiet
import Derived.Lib.SmallJoins
import Derived.Lib.Hide
import Derived.WalkSpells
import Derived.WalkLawsBesides
import Derived.IntWalk
import Derived.Below
namespace Go.Proofs.Ytjokekohmncmkad.probRounds
open Go.ChangeShapes Go.WideShapes Go.ChangeAt Go.RowKit Go.Joins
set_option linter.unusedSimpArgs false
set_option linter.unusedVariables false


set_option maxHeartbeats 2000000 in
theorem walk_yy (s0 s1 s2 s3 s4 s5 s6 s7 s9 s10 s11 s12 : Int) (A : Option Addr) (n c : Nat) (F P : Nat) (w : World) (h0 : 0 < F) (h1 : F ≤ 127) (h2 : P ≤ 64) (a0 : -9223372036854775808 ≤ s0) (a1 : s0 ≤ 9223372036854775807) (hok : RdOk s0 s1 s4 s5 s6 s7 P) :
    Calls Try.prog 6 #[.agg #[.int .i64 s0, .int .i64 s1, .int .i64 s2, .int .i64 s3, .int .i64 s4, .int .i64 s5, .int .i64 s6, .int .i64 s7, .slice A n c, .int .i64 s9, .int .i64 s10, .int .i64 s11, .int .i64 s12], .int .i64 F, .int .i64 P] w fun e w' => e = .returned (.bool true) ∧ Below w.heap.size w w' := by
  have R := fun w => right_any F P w
  rw [decide_eq_true (show PR F P by unfold PR; omega)] at R
  have S := fun w => stops_ok F P w h0 h1 h2
  have H := fun w => high_ok F P w h0 h1 h2
  have S' := fun w => rstops_ok F P w h0 h1 h2
  have H' := fun w => rhigh_ok F P w h0 h1 h2
  obtain ⟨a, ha⟩ : ∃ x : Int, ((stopsV F P : Nat) : Int) = x := ⟨_, rfl⟩
  obtain ⟨b, hb⟩ : ∃ x : Int, ((highV F P : Nat) : Int) = x := ⟨_, rfl⟩
  rw [ha] at S S'
  rw [hb] at H H'
  have qa : (a == a) = true := by simp
  have qb : (b == b) = true := by simp
  have KS' := Lib.hid S'
  have KH' := Lib.hid H'
  clear S' H' ha hb
  have X := fun w => round_any s0 s1 s2 s3 s4 s5 s6 s7 s9 s10 s11 s12 A n c P w a0 a1
  have Y := fun w => rround_any s0 s1 s2 s3 s4 s5 s6 s7 s9 s10 s11 s12 A n c P w a0 a1
  rw [(rd_yes hok).2] at X
  rw [decide_eq_true hok] at Y
  obtain ⟨v, hv⟩ : ∃ x, rdV s0 s1 s4 s5 s6 s7 P = x := ⟨_, rfl⟩
  rw [hv] at X Y
  have qv : (v != v) = false := by simp
  have KR := Lib.hid R
  have KS := Lib.hid S
  have KH := Lib.hid H
  have KX := Lib.hid X
  have KY := Lib.hid Y
  clear R S H X Y hv hok a0 a1
  have B := Lib.hid (Joins.below_alloc1 w (.cells #[.int .i64 s0, .int .i64 s1, .int .i64 s2, .int .i64 s3, .int .i64 s4, .int .i64 s5, .int .i64 s6, .int .i64 s7, .slice A n c, .int .i64 s9, .int .i64 s10, .int .i64 s11, .int .i64 s12] 48))
  go_enter Try.func6, Try.ntmps6
  go_wp2_with fail
  refine (KS.out _).mono ?_
  rintro e w1 ⟨rfl, rfl⟩
  go_wp2_with fail
  refine (KH.out _).mono ?_
  rintro e w1 ⟨rfl, rfl⟩
  go_wp2_with fail
  refine (KX.out _).mono ?_
  rintro e w1 ⟨rfl, hb1⟩
  have l := fun j v (h : #[(.int .i64 s0 : Value), .int .i64 s1, .int .i64 s2, .int .i64 s3, .int .i64 s4, .int .i64 s5, .int .i64 s6, .int .i64 s7, .slice A n c, .int .i64 s9, .int .i64 s10, .int .i64 s11, .int .i64 s12][j]? = some v) => (hb1.cell (p := ⟨w.heap.size, j, none⟩) (by simp)).trans ((World.cell?_alloc_mark w _ _ _ j).trans h)
  have l0 := l 0 _ rfl
  have l1 := l 1 _ rfl
  have l2 := l 2 _ rfl
  have l3 := l 3 _ rfl
  have l4 := l 4 _ rfl
  have l5 := l 5 _ rfl
  have l6 := l 6 _ rfl
  have l7 := l 7 _ rfl
  have l8 := l 8 _ rfl
  have l9 := l 9 _ rfl
  have l10 := l 10 _ rfl
  have l11 := l 11 _ rfl
  have l12 := l 12 _ rfl
  clear l
  have g1 := B.out.trans (Joins.below_le hb1 (by simp))
  clear hb1
  go_wp2_with fail
  refine (KY.out _).mono ?_
  rintro e w2 ⟨rfl, hb2⟩
  have g2 := g1.trans (Joins.below_le hb2 g1.size)
  clear hb2 l0 l1 l2 l3 l4 l5 l6 l7 l8 l9 l10 l11 l12
  go_wp2_with fail
  refine (KR.out _).mono ?_
  rintro e w1 ⟨rfl, rfl⟩
  go_wp2_with (first
    | (go_at_call 27; refine (palive _).mono ?_; rintro e w' ⟨rfl, rfl⟩)
    | (go_at_call 33; refine (KS'.out _).mono ?_; rintro e w' ⟨rfl, rfl⟩)
    | (go_at_call 34; refine (KH'.out _).mono ?_; rintro e w' ⟨rfl, rfl⟩))
  go_ret
  exact ⟨rfl, g2⟩

set_option maxHeartbeats 2000000 in
theorem walk_yn (s0 s1 s2 s3 s4 s5 s6 s7 s9 s10 s11 s12 : Int) (A : Option Addr) (n c : Nat) (F P : Int) (w : World) (h : ¬ PR F P) (a0 : -9223372036854775808 ≤ s0) (a1 : s0 ≤ 9223372036854775807) (hok : RdOk s0 s1 s4 s5 s6 s7 P) :
    Calls Try.prog 6 #[.agg #[.int .i64 s0, .int .i64 s1, .int .i64 s2, .int .i64 s3, .int .i64 s4, .int .i64 s5, .int .i64 s6, .int .i64 s7, .slice A n c, .int .i64 s9, .int .i64 s10, .int .i64 s11, .int .i64 s12], .int .i64 F, .int .i64 P] w fun e w' => e = .returned (.bool true) ∧ Below w.heap.size w w' := by
  have R := fun w => right_any F P w
  rw [decide_eq_false h] at R
  have S := fun w => stops_bad F P w h
  have H := fun w => high_bad F P w h
  have X := fun w => round_any s0 s1 s2 s3 s4 s5 s6 s7 s9 s10 s11 s12 A n c P w a0 a1
  have Y := fun w => rround_any s0 s1 s2 s3 s4 s5 s6 s7 s9 s10 s11 s12 A n c P w a0 a1
  rw [(rd_yes hok).2] at X
  rw [decide_eq_true hok] at Y
  obtain ⟨v, hv⟩ : ∃ x, rdV s0 s1 s4 s5 s6 s7 P = x := ⟨_, rfl⟩
  rw [hv] at X Y
  have qv : (v != v) = false := by simp
  have KR := Lib.hid R
  have KS := Lib.hid S
  have KH := Lib.hid H
  have KX := Lib.hid X
  have KY := Lib.hid Y
  clear R S H X Y hv hok a0 a1 h
  have B := Lib.hid (Joins.below_alloc1 w (.cells #[.int .i64 s0, .int .i64 s1, .int .i64 s2, .int .i64 s3, .int .i64 s4, .int .i64 s5, .int .i64 s6, .int .i64 s7, .slice A n c, .int .i64 s9, .int .i64 s10, .int .i64 s11, .int .i64 s12] 48))
  go_enter Try.func6, Try.ntmps6
  go_wp2_with fail
  refine (KS.out _).mono ?_
  rintro e w1 ⟨rfl, rfl⟩
  go_wp2_with fail
  refine (KH.out _).mono ?_
  rintro e w1 ⟨rfl, rfl⟩
  go_wp2_with fail
  refine (KX.out _).mono ?_
  rintro e w1 ⟨rfl, hb1⟩
  have l := fun j v (h : #[(.int .i64 s0 : Value), .int .i64 s1, .int .i64 s2, .int .i64 s3, .int .i64 s4, .int .i64 s5, .int .i64 s6, .int .i64 s7, .slice A n c, .int .i64 s9, .int .i64 s10, .int .i64 s11, .int .i64 s12][j]? = some v) => (hb1.cell (p := ⟨w.heap.size, j, none⟩) (by simp)).trans ((World.cell?_alloc_mark w _ _ _ j).trans h)
  have l0 := l 0 _ rfl
  have l1 := l 1 _ rfl
  have l2 := l 2 _ rfl
  have l3 := l 3 _ rfl
  have l4 := l 4 _ rfl
  have l5 := l 5 _ rfl
  have l6 := l 6 _ rfl
  have l7 := l 7 _ rfl
  have l8 := l 8 _ rfl
  have l9 := l 9 _ rfl
  have l10 := l 10 _ rfl
  have l11 := l 11 _ rfl
  have l12 := l 12 _ rfl
  clear l
  have g1 := B.out.trans (Joins.below_le hb1 (by simp))
  clear hb1
  go_wp2_with fail
  refine (KY.out _).mono ?_
  rintro e w2 ⟨rfl, hb2⟩
  have g2 := g1.trans (Joins.below_le hb2 g1.size)
  clear hb2 l0 l1 l2 l3 l4 l5 l6 l7 l8 l9 l10 l11 l12
  go_wp2_with fail
  refine (KR.out _).mono ?_
  rintro e w1 ⟨rfl, rfl⟩
  go_wp2_with (first
    | (go_at_call 27; refine (palive _).mono ?_; rintro e w' ⟨rfl, rfl⟩)
)
  go_ret
  exact ⟨rfl, g2⟩

set_option maxHeartbeats 2000000 in
theorem walk_ny (s0 s1 s2 s3 s4 s5 s6 s7 s9 s10 s11 s12 : Int) (A : Option Addr) (n c : Nat) (F P : Nat) (w : World) (h0 : 0 < F) (h1 : F ≤ 127) (h2 : P ≤ 64) (a0 : -9223372036854775808 ≤ s0) (a1 : s0 ≤ 9223372036854775807) (hok : ¬ RdOk s0 s1 s4 s5 s6 s7 P) :
    Calls Try.prog 6 #[.agg #[.int .i64 s0, .int .i64 s1, .int .i64 s2, .int .i64 s3, .int .i64 s4, .int .i64 s5, .int .i64 s6, .int .i64 s7, .slice A n c, .int .i64 s9, .int .i64 s10, .int .i64 s11, .int .i64 s12], .int .i64 F, .int .i64 P] w fun e w' => e = .returned (.bool true) ∧ Below w.heap.size w w' := by
  have R := fun w => right_any F P w
  rw [decide_eq_true (show PR F P by unfold PR; omega)] at R
  have S := fun w => stops_ok F P w h0 h1 h2
  have H := fun w => high_ok F P w h0 h1 h2
  have S' := fun w => rstops_ok F P w h0 h1 h2
  have H' := fun w => rhigh_ok F P w h0 h1 h2
  obtain ⟨a, ha⟩ : ∃ x : Int, ((stopsV F P : Nat) : Int) = x := ⟨_, rfl⟩
  obtain ⟨b, hb⟩ : ∃ x : Int, ((highV F P : Nat) : Int) = x := ⟨_, rfl⟩
  rw [ha] at S S'
  rw [hb] at H H'
  have qa : (a == a) = true := by simp
  have qb : (b == b) = true := by simp
  have KS' := Lib.hid S'
  have KH' := Lib.hid H'
  clear S' H' ha hb
  have X := fun w => round_any s0 s1 s2 s3 s4 s5 s6 s7 s9 s10 s11 s12 A n c P w a0 a1
  have Y := fun w => rround_any s0 s1 s2 s3 s4 s5 s6 s7 s9 s10 s11 s12 A n c P w a0 a1
  rw [(rd_no hok).2] at X
  rw [decide_eq_false hok] at Y
  obtain ⟨v, hv⟩ : ∃ x, rdV s0 s1 s4 s5 s6 s7 P = x := ⟨_, rfl⟩
  rw [hv] at X Y
  have qv : (v != v) = false := by simp
  have KR := Lib.hid R
  have KS := Lib.hid S
  have KH := Lib.hid H
  have KX := Lib.hid X
  have KY := Lib.hid Y
  clear R S H X Y hv hok a0 a1
  have B := Lib.hid (Joins.below_alloc1 w (.cells #[.int .i64 s0, .int .i64 s1, .int .i64 s2, .int .i64 s3, .int .i64 s4, .int .i64 s5, .int .i64 s6, .int .i64 s7, .slice A n c, .int .i64 s9, .int .i64 s10, .int .i64 s11, .int .i64 s12] 48))
  go_enter Try.func6, Try.ntmps6
  go_wp2_with fail
  refine (KS.out _).mono ?_
  rintro e w1 ⟨rfl, rfl⟩
  go_wp2_with fail
  refine (KH.out _).mono ?_
  rintro e w1 ⟨rfl, rfl⟩
  go_wp2_with fail
  refine (KX.out _).mono ?_
  rintro e w1 ⟨rfl, hb1⟩
  have l := fun j v (h : #[(.int .i64 s0 : Value), .int .i64 s1, .int .i64 s2, .int .i64 s3, .int .i64 s4, .int .i64 s5, .int .i64 s6, .int .i64 s7, .slice A n c, .int .i64 s9, .int .i64 s10, .int .i64 s11, .int .i64 s12][j]? = some v) => (hb1.cell (p := ⟨w.heap.size, j, none⟩) (by simp)).trans ((World.cell?_alloc_mark w _ _ _ j).trans h)
  have l0 := l 0 _ rfl
  have l1 := l 1 _ rfl
  have l2 := l 2 _ rfl
  have l3 := l 3 _ rfl
  have l4 := l 4 _ rfl
  have l5 := l 5 _ rfl
  have l6 := l 6 _ rfl
  have l7 := l 7 _ rfl
  have l8 := l 8 _ rfl
  have l9 := l 9 _ rfl
  have l10 := l 10 _ rfl
  have l11 := l 11 _ rfl
  have l12 := l 12 _ rfl
  clear l
  have g1 := B.out.trans (Joins.below_le hb1 (by simp))
  clear hb1
  go_wp2_with fail
  refine (KY.out _).mono ?_
  rintro e w2 ⟨rfl, hb2⟩
  have g2 := g1.trans (Joins.below_le hb2 g1.size)
  clear hb2 l0 l1 l2 l3 l4 l5 l6 l7 l8 l9 l10 l11 l12
  go_wp2_with fail
  refine (KR.out _).mono ?_
  rintro e w1 ⟨rfl, rfl⟩
  go_wp2_with (first
    | (go_at_call 27; refine (palive _).mono ?_; rintro e w' ⟨rfl, rfl⟩)
    | (go_at_call 33; refine (KS'.out _).mono ?_; rintro e w' ⟨rfl, rfl⟩)
    | (go_at_call 34; refine (KH'.out _).mono ?_; rintro e w' ⟨rfl, rfl⟩))
  go_ret
  exact ⟨rfl, g2⟩

set_option maxHeartbeats 2000000 in
theorem walk_nn (s0 s1 s2 s3 s4 s5 s6 s7 s9 s10 s11 s12 : Int) (A : Option Addr) (n c : Nat) (F P : Int) (w : World) (h : ¬ PR F P) (a0 : -9223372036854775808 ≤ s0) (a1 : s0 ≤ 9223372036854775807) (hok : ¬ RdOk s0 s1 s4 s5 s6 s7 P) :
    Calls Try.prog 6 #[.agg #[.int .i64 s0, .int .i64 s1, .int .i64 s2, .int .i64 s3, .int .i64 s4, .int .i64 s5, .int .i64 s6, .int .i64 s7, .slice A n c, .int .i64 s9, .int .i64 s10, .int .i64 s11, .int .i64 s12], .int .i64 F, .int .i64 P] w fun e w' => e = .returned (.bool true) ∧ Below w.heap.size w w' := by
  have R := fun w => right_any F P w
  rw [decide_eq_false h] at R
  have S := fun w => stops_bad F P w h
  have H := fun w => high_bad F P w h
  have X := fun w => round_any s0 s1 s2 s3 s4 s5 s6 s7 s9 s10 s11 s12 A n c P w a0 a1
  have Y := fun w => rround_any s0 s1 s2 s3 s4 s5 s6 s7 s9 s10 s11 s12 A n c P w a0 a1
  rw [(rd_no hok).2] at X
  rw [decide_eq_false hok] at Y
  obtain ⟨v, hv⟩ : ∃ x, rdV s0 s1 s4 s5 s6 s7 P = x := ⟨_, rfl⟩
  rw [hv] at X Y
  have qv : (v != v) = false := by simp
  have KR := Lib.hid R
  have KS := Lib.hid S
  have KH := Lib.hid H
  have KX := Lib.hid X
  have KY := Lib.hid Y
  clear R S H X Y hv hok a0 a1 h
  have B := Lib.hid (Joins.below_alloc1 w (.cells #[.int .i64 s0, .int .i64 s1, .int .i64 s2, .int .i64 s3, .int .i64 s4, .int .i64 s5, .int .i64 s6, .int .i64 s7, .slice A n c, .int .i64 s9, .int .i64 s10, .int .i64 s11, .int .i64 s12] 48))
  go_enter Try.func6, Try.ntmps6
  go_wp2_with fail
  refine (KS.out _).mono ?_
  rintro e w1 ⟨rfl, rfl⟩
  go_wp2_with fail
  refine (KH.out _).mono ?_
  rintro e w1 ⟨rfl, rfl⟩
  go_wp2_with fail
  refine (KX.out _).mono ?_
  rintro e w1 ⟨rfl, hb1⟩
  have l := fun j v (h : #[(.int .i64 s0 : Value), .int .i64 s1, .int .i64 s2, .int .i64 s3, .int .i64 s4, .int .i64 s5, .int .i64 s6, .int .i64 s7, .slice A n c, .int .i64 s9, .int .i64 s10, .int .i64 s11, .int .i64 s12][j]? = some v) => (hb1.cell (p := ⟨w.heap.size, j, none⟩) (by simp)).trans ((World.cell?_alloc_mark w _ _ _ j).trans h)
  have l0 := l 0 _ rfl
  have l1 := l 1 _ rfl
  have l2 := l 2 _ rfl
  have l3 := l 3 _ rfl
  have l4 := l 4 _ rfl
  have l5 := l 5 _ rfl
  have l6 := l 6 _ rfl
  have l7 := l 7 _ rfl
  have l8 := l 8 _ rfl
  have l9 := l 9 _ rfl
  have l10 := l 10 _ rfl
  have l11 := l 11 _ rfl
  have l12 := l 12 _ rfl
  clear l
  have g1 := B.out.trans (Joins.below_le hb1 (by simp))
  clear hb1
  go_wp2_with fail
  refine (KY.out _).mono ?_
  rintro e w2 ⟨rfl, hb2⟩
  have g2 := g1.trans (Joins.below_le hb2 g1.size)
  clear hb2 l0 l1 l2 l3 l4 l5 l6 l7 l8 l9 l10 l11 l12
  go_wp2_with fail
  refine (KR.out _).mono ?_
  rintro e w1 ⟨rfl, rfl⟩
  go_wp2_with (first
    | (go_at_call 27; refine (palive _).mono ?_; rintro e w' ⟨rfl, rfl⟩)
)
  go_ret
  exact ⟨rfl, g2⟩

theorem walk {s0 s1 s2 s3 s4 s5 s6 s7 s9 s10 s11 s12 : Int} {A : Option Addr} {n c : Nat} {z : Nat → Nat → Int} {f p : Int} {w : World} (w0 : (Lit.int .i64 s0).wf = true) (_ : (Lit.int .i64 s1).wf = true) (_ : (Lit.int .i64 s2).wf = true) (_ : (Lit.int .i64 s3).wf = true) (_ : (Lit.int .i64 s4).wf = true) (_ : (Lit.int .i64 s5).wf = true) (_ : (Lit.int .i64 s6).wf = true) (_ : (Lit.int .i64 s7).wf = true) (_ : n ≤ c) (_ : c ≤ maxLen) (_ : RdZ w 3 A n z) (_ : A = none → c = 0) (_ : (Lit.int .i64 s9).wf = true) (_ : (Lit.int .i64 s10).wf = true) (_ : (Lit.int .i64 s11).wf = true) (_ : (Lit.int .i64 s12).wf = true) (_ : (Lit.int .i64 f).wf = true) (_ : (Lit.int .i64 p).wf = true) :
    Calls Try.prog 6 #[.agg #[.int .i64 s0, .int .i64 s1, .int .i64 s2, .int .i64 s3, .int .i64 s4, .int .i64 s5, .int .i64 s6, .int .i64 s7, .slice A n c, .int .i64 s9, .int .i64 s10, .int .i64 s11, .int .i64 s12], .int .i64 f, .int .i64 p] w fun e w' => e = .returned (.bool true) ∧ Below w.heap.size w w' := by
  obtain ⟨a0, a1⟩ := bounds_i64 w0
  by_cases h : PR f p
  · have h' := h
    unfold PR at h'
    obtain ⟨F, rfl⟩ := Int.eq_ofNat_of_zero_le (show 0 ≤ f by omega)
    obtain ⟨P, rfl⟩ := Int.eq_ofNat_of_zero_le (show 0 ≤ p by omega)
    by_cases hok : RdOk s0 s1 s4 s5 s6 s7 P
    · exact walk_yy s0 s1 s2 s3 s4 s5 s6 s7 s9 s10 s11 s12 A n c F P w (by omega) (by omega) (by omega) a0 a1 hok
    · exact walk_ny s0 s1 s2 s3 s4 s5 s6 s7 s9 s10 s11 s12 A n c F P w (by omega) (by omega) (by omega) a0 a1 hok
  · by_cases hok : RdOk s0 s1 s4 s5 s6 s7 p
    · exact walk_yn s0 s1 s2 s3 s4 s5 s6 s7 s9 s10 s11 s12 A n c f p w h a0 a1 hok
    · exact walk_nn s0 s1 s2 s3 s4 s5 s6 s7 s9 s10 s11 s12 A n c f p w h a0 a1 hok

end Go.Proofs.Ytjokekohmncmkad.probRounds
