/- The walk of RankPlaces: it answers true for every input, and leaves all old blocks as they were. No condition. -/
import Derived.Test.YtcofafiacpecnaaRows
import Derived.Test.YtcofafiacpecnaaRowKit
import Derived.Test.YtcofafiacpecnaaSlicesEq
import Derived.Test.YtcofafiacpecnaaSlicesEqM
import Derived.Test.YtcofafiacpecnaaRowL
import Derived.Test.YtcofafiacpecnaaMakeI
import Derived.Test.YtcofafiacpecnaaShelf
import Derived.Test.YtcofafiacpecnaaSeqA
import Derived.Test.YtcofafiacpecnaaSeqB
import Derived.Test.YtcofafiacpecnaaRankMath
import Derived.Test.YtcofafiacpecnaaRankA
import Derived.Test.YtcofafiacpecnaaRankB
import Derived.WalkKit
import Derived.ProofKit
import Derived.OpenShut
import Derived.Deep.QuietTactic
import Derived.BigQuiet
import Derived.Lib.SmallJoins
import Derived.Lib.Hide
import Derived.WalkSpells
import Derived.WalkLawsBesides
import Derived.IntWalk
namespace Go.Proofs.Ytcofafiacpecnaa.rankPlaces
open Go.ChangeShapes Go.WideShapes Go.ChangeAt Go.RowKit Go.Joins
set_option linter.unusedSimpArgs false
set_option linter.unusedVariables false

set_option maxRecDepth 100000 in
set_option maxHeartbeats 2000000 in
theorem walk_out (p m : Int) (w : World) (h : p < 1 ∨ 100 < p ∨ m < 1) :
    Calls Try.prog 11 #[.int .i64 p, .int .i64 m] w fun e w' => e = .returned (.bool true) ∧ Below w.heap.size w w' := by
  have K := Lib.hid (fun w => rplace_no p m w h)
  rcases (show p < 1 ∨ (¬ p < 1 ∧ 100 < p) ∨ (¬ p < 1 ∧ ¬ 100 < p ∧ m < 1) by omega) with h1 | ⟨h1, h2⟩ | ⟨h1, h2, h3⟩
  all_goals (
    clear h
    go_enter Try.func11, Try.ntmps11
    go_wp2_with (first
      | (go_at_call 55; refine (K.out _).mono ?_; rintro e w' ⟨rfl, rfl⟩)
      | (go_at_call 56; refine (rkalive _).mono ?_; rintro e w1 ⟨rfl, hb1⟩))
    go_ret
    exact ⟨rfl, hb1⟩)
set_option maxRecDepth 100000 in
set_option maxHeartbeats 2000000 in
theorem walk_in (p m A B q : Int) (w : World) (p1 : 1 ≤ p) (p2 : p ≤ 100) (m1 : 1 ≤ m) (m2 : m ≤ 9223372036854775807) (R : PlR p m A B q) :
    Calls Try.prog 11 #[.int .i64 p, .int .i64 m] w fun e w' => e = .returned (.bool true) ∧ Below w.heap.size w w' := by
  have K := Lib.hid (fun w => rplace_ok p m A B q w p1 p2 m1 m2 R)
  obtain ⟨a, b, hq, a0, b0, b1, k0, k1, am, s⟩ := R
  have w1 : IntKind.i64.wrap (p * (m / 100)) = A := by rw [Int.mul_comm, a]; exact IntWalk.i64_in _ (by omega)
  have w2 : IntKind.i64.wrap (p * (m % 100)) = B := by rw [Int.mul_comm, b]; exact IntWalk.i64_in _ (by omega)
  have q0 : 0 ≤ q := by omega
  have q1 : q ≤ 100 := by omega
  have t1 : B ≤ 100 * q := by omega
  have t2 : 100 * q < B + 100 := by omega
  have w3 : wrap64 (A + q - A) = q := by rw [show A + q - A = q by omega]; unfold wrap64; omega
  have e3 : A + q - A = q := by omega
  clear a b s hq
  go_enter Try.func11, Try.ntmps11
  go_wp2_with (first
    | (go_at_call 55; refine (K.out _).mono ?_; rintro e w' ⟨rfl, rfl⟩)
    | (go_at_call 56; refine (rkalive _).mono ?_; rintro e w1 ⟨rfl, hb1⟩))
  go_ret
  exact ⟨rfl, hb1⟩
theorem walk {p m : Int} (w0 : (Lit.int .i64 p).wf = true) (w1 : (Lit.int .i64 m).wf = true) (w : World) :
    Calls Try.prog 11 #[.int .i64 p, .int .i64 m] w fun e w' => e = .returned (.bool true) ∧ Below w.heap.size w w' := by
  obtain ⟨b0, b1⟩ := bounds_i64 w1
  by_cases h : p < 1 ∨ 100 < p ∨ m < 1
  · exact walk_out p m w h
  · exact walk_in p m _ _ _ w (by omega) (by omega) (by omega) b1 (pl_of (by omega) (by omega) (by omega))

end Go.Proofs.Ytcofafiacpecnaa.rankPlaces
