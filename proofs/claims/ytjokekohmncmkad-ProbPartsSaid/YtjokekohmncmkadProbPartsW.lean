/- The walk of ProbParts: it answers true for every input, and leaves all old blocks as they were. No condition. -/
import Derived.Test.YtjokekohmncmkadRows
import Derived.Test.YtjokekohmncmkadRowKit
import Derived.Test.YtjokekohmncmkadProbMath
import Derived.Test.YtjokekohmncmkadProbA
import Derived.Test.YtjokekohmncmkadProbB
import Derived.WalkKit
import Derived.ProofKit
import Derived.OpenShut
import Derived.Deep.QuietTactic
import Derived.BigQuiet
import Derived.Lib.SmallJoins
import Derived.Lib.Hide
import Derived.WalkSpells
import Derived.WalkLawsBesides
import Derived.IntWalk
namespace Go.Proofs.Ytjokekohmncmkad.probParts
open Go.ChangeShapes Go.WideShapes Go.ChangeAt Go.RowKit Go.Joins
set_option linter.unusedSimpArgs false
set_option linter.unusedVariables false

set_option maxHeartbeats 1000000 in
theorem walk {a b n m : Int} (w0 : (Lit.int .u64 a).wf = true) (w1 : (Lit.int .u64 b).wf = true) (w2 : (Lit.int .i64 n).wf = true) (w3 : (Lit.int .i64 m).wf = true) (w : World) :
    Calls Try.prog 5 #[.int .u64 a, .int .u64 b, .agg #[.int .i64 n, .int .i64 m]] w fun e w' => e = .returned (.bool true) ∧ Below w.heap.size w w' := by
  obtain ⟨a0, a1⟩ := bounds_u64 w0
  obtain ⟨b0, b1⟩ := bounds_u64 w1
  have T := fun w => ptimes_int a b w a0 (by omega) b0 (by omega)
  have U := fun w => rptimes_int a b w a0 (by omega) b0 (by omega)
  have P := fun w => power_any a n w a0 (by omega)
  have Q := fun w => rpower_any a n w a0 (by omega)
  have X := fun w => part_any n m w
  have Y := fun w => rpart_any n m w
  obtain ⟨t, ht⟩ : ∃ t : Int, ((tms a.toNat b.toNat : Nat) : Int) = t := ⟨_, rfl⟩
  obtain ⟨p, hp⟩ : ∃ p, powV a n = p := ⟨_, rfl⟩
  obtain ⟨x, hx⟩ : ∃ x, ptV n m = x := ⟨_, rfl⟩
  obtain ⟨y, hy⟩ : ∃ y, ptE n m = y := ⟨_, rfl⟩
  rw [ht] at T U
  rw [hp] at P Q
  rw [hx, hy] at X Y
  have HT := Lib.hid T
  have HU := Lib.hid U
  have HP := Lib.hid P
  have HQ := Lib.hid Q
  have HX := Lib.hid X
  have HY := Lib.hid Y
  have q1 : (t == t) = true := by simp
  have q2 : (p == p) = true := by simp
  have q3 : (x == x) = true := by simp
  have q4 : (y == y) = true := by simp
  clear T U P Q X Y ht hp hx hy a0 a1 b0 b1 w0 w1 w2 w3
  go_enter Try.func5, Try.ntmps5
  go_wp2_with (first
    | (go_at_call 21; refine (HX.out _).mono ?_; rintro e w' ⟨rfl, rfl⟩)
    | (go_at_call 22; refine (HY.out _).mono ?_; rintro e w' ⟨rfl, rfl⟩))
  go_quiet ((first
    | (go_at_call 23; exact Calls.quiet_of_same ((HT.out _).mono fun _ _ h => ⟨h.1, h.2.symm⟩))
    | (go_at_call 24; exact Calls.quiet_of_same ((HU.out _).mono fun _ _ h => ⟨h.1, h.2.symm⟩))
    | (go_at_call 25; exact Calls.quiet_of_same ((HP.out _).mono fun _ _ h => ⟨h.1, h.2.symm⟩))
    | (go_at_call 26; exact Calls.quiet_of_same ((HQ.out _).mono fun _ _ h => ⟨h.1, h.2.symm⟩))
    | (go_at_call 27; exact Calls.quiet_of_same ((palive _).mono fun _ _ h => ⟨h.1, h.2.symm⟩))))
  go_wp2_with fail
  go_ret
  exact ⟨rfl, below_drewN ((Below.refl _ _).alloc (Nat.le_refl _) _) _⟩

end Go.Proofs.Ytjokekohmncmkad.probParts
