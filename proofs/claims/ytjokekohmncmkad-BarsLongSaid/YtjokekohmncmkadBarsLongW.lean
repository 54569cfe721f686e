/- The walk of BarsLong: it answers true for every input, and leaves all old blocks as they were. No condition. -/
import Derived.Test.YtjokekohmncmkadRows
import Derived.Test.YtjokekohmncmkadRowKit
import Derived.Test.YtjokekohmncmkadNumsMath
import Derived.Test.YtjokekohmncmkadBarsA
import Derived.WalkKit
import Derived.ProofKit
import Derived.OpenShut
import Derived.Deep.QuietTactic
import Derived.BigQuiet
import Derived.Lib.SmallJoins
import Derived.Lib.Hide
import Derived.WalkSpells
import Derived.WalkLawsBesides
import Derived.IntWalk
namespace Go.Proofs.Ytjokekohmncmkad.barsLong
open Go.ChangeShapes Go.WideShapes Go.ChangeAt Go.RowKit Go.Joins
set_option linter.unusedSimpArgs false
set_option linter.unusedVariables false


set_option maxHeartbeats 1000000 in
theorem walk_bad {n g l : Int} (w : World) (b0 : -9223372036854775808 ≤ n) (c0 : n ≤ 9223372036854775807) (b1 : -9223372036854775808 ≤ g) (c1 : g ≤ 9223372036854775807) (b2 : -9223372036854775808 ≤ l) (c2 : l ≤ 9223372036854775807) (h : blBad n g l) :
    Calls Try.prog 4 #[.int .i64 n, .int .i64 g, .int .i64 l] w fun e w' => e = .returned (.bool true) ∧ Below w.heap.size w w' := by
  have L := fun w => long_any n g l w b0 c0 b1 c1 b2 c2
  rw [(bl_bad h).1, (bl_bad h).2] at L
  have HA := Lib.hid L
  have HB := Lib.hid (fun w => rlong_bad n g l w h)
  clear L h b0 c0 b1 c1 b2 c2
  go_enter Try.func4, Try.ntmps4
  go_wp2_with (first
    | (go_at_call 18; refine (HA.out _).mono ?_; rintro e w' ⟨rfl, k, rfl⟩)
    | (go_at_call 19; refine (HB.out _).mono ?_; rintro e w' ⟨rfl, rfl⟩)
    | (go_at_call 20; refine (balive _).mono ?_; rintro e w' ⟨rfl, m, rfl⟩))
  go_ret
  exact ⟨rfl, below_drewN (Below.refl _ _) _⟩
set_option maxHeartbeats 1000000 in
theorem walk_ok {N G L : Nat} (w : World) (h : N ≤ G) (hG : G ≤ 9223372036854775807) (h1 : 1 ≤ L) (h2 : L ≤ 200) :
    Calls Try.prog 4 #[.int .i64 N, .int .i64 G, .int .i64 L] w fun e w' => e = .returned (.bool true) ∧ Below w.heap.size w w' := by
  have A := fun w => long_any N G L w (by omega) (by omega) (by omega) (by omega) (by omega) (by omega)
  rw [(bl_cast h h1 h2).2.1, (bl_cast h h1 h2).2.2] at A
  have B := fun w => rlong_ok N G L w h hG h1 h2
  obtain ⟨s1, _, _, s2⟩ := bl_steps (L := L) h
  have s3 := s2 h1
  obtain ⟨K, hK⟩ : ∃ K, blK N G L = K := ⟨_, rfl⟩
  rw [hK] at A B s1 s3
  have HA := Lib.hid A
  have HB := Lib.hid B
  have q1 : (K == K) = true := by simp
  have q2 : ((K : Int) == (K : Int)) = true := by simp
  by_cases hN : 0 < N
  · have hKp : 0 < K := s3.2 hN
    clear A B s2 s3 hK h hG h1 h2
    go_enter Try.func4, Try.ntmps4
    go_wp2_with (first
      | (go_at_call 18; refine (HA.out _).mono ?_; rintro e w' ⟨rfl, k, rfl⟩)
      | (go_at_call 19; refine (HB.out _).mono ?_; rintro e w' ⟨rfl, rfl⟩)
      | (go_at_call 20; refine (balive _).mono ?_; rintro e w' ⟨rfl, m, rfl⟩))
    go_ret
    exact ⟨rfl, below_drewN (Below.refl _ _) _⟩
  · have hKp : ¬ 0 < K := fun c => hN (s3.1 c)
    clear A B s2 s3 hK h hG h1 h2
    go_enter Try.func4, Try.ntmps4
    go_wp2_with (first
      | (go_at_call 18; refine (HA.out _).mono ?_; rintro e w' ⟨rfl, k, rfl⟩)
      | (go_at_call 19; refine (HB.out _).mono ?_; rintro e w' ⟨rfl, rfl⟩)
      | (go_at_call 20; refine (balive _).mono ?_; rintro e w' ⟨rfl, m, rfl⟩))
    go_ret
    exact ⟨rfl, below_drewN (Below.refl _ _) _⟩
theorem walk {n g l : Int} (w0 : (Lit.int .i64 n).wf = true) (w1 : (Lit.int .i64 g).wf = true) (w2 : (Lit.int .i64 l).wf = true) (w : World) :
    Calls Try.prog 4 #[.int .i64 n, .int .i64 g, .int .i64 l] w fun e w' => e = .returned (.bool true) ∧ Below w.heap.size w w' := by
  obtain ⟨b0, c0⟩ := bounds_i64 w0
  obtain ⟨b1, c1⟩ := bounds_i64 w1
  obtain ⟨b2, c2⟩ := bounds_i64 w2
  by_cases h : blBad n g l
  · exact walk_bad w b0 c0 b1 c1 b2 c2 h
  · have h' := h
    unfold blBad at h'
    obtain ⟨N, rfl⟩ := Int.eq_ofNat_of_zero_le (show 0 ≤ n by omega)
    obtain ⟨G, rfl⟩ := Int.eq_ofNat_of_zero_le (show 0 ≤ g by omega)
    obtain ⟨L, rfl⟩ := Int.eq_ofNat_of_zero_le (show 0 ≤ l by omega)
    exact walk_ok w (by omega) (by omega) (by omega) (by omega)

end Go.Proofs.Ytjokekohmncmkad.barsLong
