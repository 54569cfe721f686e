/- The walk of ProbBounds: it answers true for every input, and leaves all old blocks as they were. No condition. -/
import Derived.Test.YtjokekohmncmkadRows
import Derived.Test.YtjokekohmncmkadRowKit
import Derived.Test.YtjokekohmncmkadProbMath
import Derived.Test.YtjokekohmncmkadProbA
import Derived.Test.YtjokekohmncmkadProbB
import Derived.WalkKit
import Derived.ProofKit
import Derived.OpenShut
import Derived.Deep.QuietTactic
import Derived.BigQuiet
import Derived.Lib.SmallJoins
import Derived.Lib.Hide
import Derived.WalkSpells
import Derived.WalkLawsBesides
import Derived.IntWalk
namespace Go.Proofs.Ytjokekohmncmkad.probBounds
open Go.ChangeShapes Go.WideShapes Go.ChangeAt Go.RowKit Go.Joins
set_option linter.unusedSimpArgs false
set_option linter.unusedVariables false

set_option maxHeartbeats 1000000 in
theorem walk_no {f p : Int} (w : World) (h : ¬ PR f p ∨ p = 64) :
    Calls Try.prog 7 #[.int .i64 f, .int .i64 p] w fun e w' => e = .returned (.bool true) ∧ Below w.heap.size w w' := by
  have R := fun w => right_any f p w
  by_cases c : PR f p
  · have e : p = 64 := by rcases h with h | h; exact absurd c h; exact h
    rw [decide_eq_true c] at R
    have HR := Lib.hid R
    subst e
    clear R h c
    go_enter Try.func7, Try.ntmps7
    go_wp2_with (go_at_call 32; refine (HR.out _).mono ?_; rintro e w' ⟨rfl, rfl⟩)
    go_ret
    exact ⟨rfl, Below.refl _ _⟩
  · rw [decide_eq_false c] at R
    have HR := Lib.hid R
    clear R h c
    go_enter Try.func7, Try.ntmps7
    go_wp2_with (go_at_call 32; refine (HR.out _).mono ?_; rintro e w' ⟨rfl, rfl⟩)
    go_ret
    exact ⟨rfl, Below.refl _ _⟩
set_option maxHeartbeats 1000000 in
theorem walk_ok (F p : Nat) (w : World) (h0 : 0 < F) (hF : F ≤ 127) (hp : p ≤ 63) :
    Calls Try.prog 7 #[.int .i64 F, .int .i64 p] w fun e w' => e = .returned (.bool true) ∧ Below w.heap.size w w' := by
  have R := fun w => right_any F p w
  rw [decide_eq_true (show PR F p by unfold PR; omega)] at R
  have A := fun w => stops_ok F p w h0 hF (by omega)
  have B := fun w => high_ok F p w h0 hF (by omega)
  have C := fun w => stops_ok F (p + 1) w h0 hF (by omega)
  have D := fun w => high_ok F (p + 1) w h0 hF (by omega)
  rw [show ((p + 1 : Nat) : Int) = (p : Int) + 1 by omega] at C D
  have l1 := stops_most F p
  have l2 := high_most F p
  have l3 := stops_ge (p := p) h0
  have l4 := high_ge (p := p) h0
  have l5 := stops_people h0 (show p ≤ 64 by omega)
  have l6 := high_stops (p := p) h0
  obtain ⟨a, ha⟩ : ∃ a, stopsV F p = a := ⟨_, rfl⟩
  obtain ⟨b, hb⟩ : ∃ b, highV F p = b := ⟨_, rfl⟩
  obtain ⟨c, hc⟩ : ∃ c, stopsV F (p + 1) = c := ⟨_, rfl⟩
  obtain ⟨d, hd⟩ : ∃ d, highV F (p + 1) = d := ⟨_, rfl⟩
  rw [ha] at A l1 l3 l5 l6
  rw [hb] at B l2 l4 l6
  rw [hc] at C l3
  rw [hd] at D l4
  obtain ⟨xa, hxa⟩ : ∃ x : Int, (a : Int) = x := ⟨_, rfl⟩
  obtain ⟨xb, hxb⟩ : ∃ x : Int, (b : Int) = x := ⟨_, rfl⟩
  obtain ⟨xc, hxc⟩ : ∃ x : Int, (c : Int) = x := ⟨_, rfl⟩
  obtain ⟨xd, hxd⟩ : ∃ x : Int, (d : Int) = x := ⟨_, rfl⟩
  obtain ⟨f, hf⟩ : ∃ x : Int, (F : Int) = x := ⟨_, rfl⟩
  obtain ⟨q, hq⟩ : ∃ x : Int, (p : Int) = x := ⟨_, rfl⟩
  have f0 : 0 ≤ f := by omega
  have f1 : f ≤ 127 := by omega
  have p0 : 0 ≤ q := by omega
  have p1 : q ≤ 63 := by omega
  have p2 : (q == 64) = false := by rw [beq_eq_false_iff_ne]; omega
  have m1 : xa ≤ f * 4294967296 := by omega
  have m2 : xb ≤ f * 4294967296 := by omega
  have m3 : xa ≤ xc := by omega
  have m4 : xb ≤ xd := by omega
  have m5 : xa ≤ q * 4294967296 + f * 4295 := by omega
  have m6 : xa ≤ xb + f * 4295 := by omega
  have m7 : 0 ≤ xb := by omega
  rw [hxa] at A
  rw [hxb] at B
  rw [hxc] at C
  rw [hxd] at D
  rw [hf, hq] at A B R ⊢
  rw [hf, hq] at C D
  have HA := Lib.hid A
  have HB := Lib.hid B
  have HC := Lib.hid C
  have HD := Lib.hid D
  have HR := Lib.hid R
  clear A B C D R ha hb hc hd hxa hxb hxc hxd hf hq l1 l2 l3 l4 l5 l6 h0 hF hp
  go_enter Try.func7, Try.ntmps7
  go_wp2_with fail
  refine (HR.out _).mono ?_
  rintro e w' ⟨rfl, rfl⟩
  go_wp2_with fail
  refine (HA.out _).mono ?_
  rintro e w' ⟨rfl, rfl⟩
  go_wp2_with fail
  refine (HB.out _).mono ?_
  rintro e w' ⟨rfl, rfl⟩
  go_wp2_with fail
  refine (HC.out _).mono ?_
  rintro e w' ⟨rfl, rfl⟩
  go_wp2_with fail
  refine (HD.out _).mono ?_
  rintro e w' ⟨rfl, rfl⟩
  go_wp2_with (go_at_call 27; refine (palive _).mono ?_; rintro e w' ⟨rfl, rfl⟩)
  go_ret
  exact ⟨rfl, Below.refl _ _⟩
theorem walk {f p : Int} (w0 : (Lit.int .i64 f).wf = true) (w1 : (Lit.int .i64 p).wf = true) (w : World) :
    Calls Try.prog 7 #[.int .i64 f, .int .i64 p] w fun e w' => e = .returned (.bool true) ∧ Below w.heap.size w w' := by
  by_cases h : PR f p
  · have h' := h
    unfold PR at h'
    by_cases e : p = 64
    · exact walk_no w (.inr e)
    · obtain ⟨F, rfl⟩ := Int.eq_ofNat_of_zero_le (show 0 ≤ f by omega)
      obtain ⟨P, rfl⟩ := Int.eq_ofNat_of_zero_le (show 0 ≤ p by omega)
      exact walk_ok F P w (by omega) (by omega) (by omega)
  · exact walk_no w (.inl h)

end Go.Proofs.Ytjokekohmncmkad.probBounds
