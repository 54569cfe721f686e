/- Contracts of near.Cost and of the law's example. -/
import Derived.Test.YtcofafiacpecnaaRows
import Derived.Test.YtcofafiacpecnaaRowKit
import Derived.Test.YtcofafiacpecnaaSlicesEq
import Derived.Test.YtcofafiacpecnaaCmp
import Derived.Test.YtcofafiacpecnaaPlaceA
import Derived.Test.YtcofafiacpecnaaNearMath
import Derived.Test.YtcofafiacpecnaaNearA
import Derived.WalkKit
import Derived.IntWalk
import Derived.Lib.Hide
import Derived.WalkSpells
import Derived.WalkLawsBesides
import Derived.Deep.QuietTactic
import Derived.BigQuiet
import Derived.Below
namespace Go.Proofs.Ytcofafiacpecnaa
open Go.RowKit
set_option linter.unusedSimpArgs false
set_option linter.unusedVariables false
/-- a call's cost: how far; one that goes away two heights more, one that goes the other way one -/
def costV (p m t d dir : Int) : Int := if d = 0 then farV p m else if cmpI m p = -d then farV p m + 2 * t else if dir = d then farV p m else farV p m + t
def scnV (s : Nat → Int) (A : Option Addr) (n c : Nat) : Value := .agg #[.int .i64 (s 0), .int .i64 (s 1), .int .i64 (s 2), .int .i64 (s 3), .int .i64 (s 4), .int .i64 (s 5), .int .i64 (s 6), .int .i64 (s 7), .slice A n c, .int .i64 (s 9), .int .i64 (s 10), .int .i64 (s 11), .int .i64 (s 12)]
def carV (p d m l : Int) (b : Bool) (R : Value) : Value := .agg #[.int .i64 p, .int .i64 d, .int .i64 m, .int .i64 l, .bool b, R]
theorem far_bd {p m : Int} (p0 : 0 ≤ p) (p1 : p ≤ 1048576) (m0 : 0 ≤ m) (m1 : m ≤ 1048576) : 0 ≤ farV p m ∧ farV p m ≤ 1048576 := by unfold farV; split <;> omega
set_option maxHeartbeats 1000000 in
theorem cost_any (s : Nat → Int) (A : Option Addr) (n c : Nat) (p d mo le : Int) (bw : Bool) (R : Value) (f dir m t : Int) (w : World) (hm : f * s 1 = m) (m0 : 0 ≤ m) (m1 : m ≤ 1048576) (ht : (s 0 - 1) * s 1 = t) (t0 : 0 ≤ t) (t1 : t ≤ 1048576) (s0 : 0 ≤ s 0) (s1 : s 0 ≤ 1048576) (p0 : 0 ≤ p) (p1 : p ≤ 1048576) (d0 : -1 ≤ d) (d1 : d ≤ 1) :
    Calls Try.prog 29 #[scnV s A n c, carV p d mo le bw R, .int .i64 f, .int .i64 dir] w fun e w' => e = .returned (.int .i64 (costV p m t d dir)) ∧ Below w.heap.size w w' := by
  have KA := Lib.hid (fun w => at_any f (s 1) m w hm (by omega) (by omega))
  have KF := fun w => far_any p m w p0 (by omega) m0 (by omega)
  have KT := Lib.hid (fun w => top_any (s 0) (s 1) t w ht (by omega) (by omega) (by omega) (by omega))
  have KD := fun w => dir_any p m w
  have fb := far_bd p0 p1 m0 m1
  clear hm ht
  have BW := Lib.hid (((Below.refl w.heap.size w).alloc (Nat.le_refl _) (.cells #[.int .i64 (s 0), .int .i64 (s 1), .int .i64 (s 2), .int .i64 (s 3), .int .i64 (s 4), .int .i64 (s 5), .int .i64 (s 6), .int .i64 (s 7), .slice A n c, .int .i64 (s 9), .int .i64 (s 10), .int .i64 (s 11), .int .i64 (s 12)] 51)).alloc (by simp) (.cells #[.int .i64 p, .int .i64 d, .int .i64 mo, .int .i64 le, .bool bw, R] 59))
  obtain ⟨x, hx⟩ : ∃ x, farV p m = x := ⟨_, rfl⟩
  obtain ⟨y, hy⟩ : ∃ y, cmpI m p = y := ⟨_, rfl⟩
  unfold costV
  rw [hx, hy]
  rw [hx] at KF fb
  rw [hy] at KD
  have HF := Lib.hid KF
  have HD := Lib.hid KD
  clear KF KD hx hy
  unfold scnV carV
  by_cases c1 : d = 0
  · subst c1
    rw [if_pos rfl]
    go_enter Try.func29, Try.ntmps29
    go_wp2_with (go_at_call 78; refine (KA.out _).mono ?_; rintro e w' ⟨rfl, rfl⟩)
    go_quiet ((first
      | (go_at_call 79; exact Calls.quiet_of_same ((HF.out _).mono fun _ _ h => ⟨h.1, h.2.symm⟩))
      | (go_at_call 80; exact Calls.quiet_of_same ((KT.out _).mono fun _ _ h => ⟨h.1, h.2.symm⟩))))
    go_wp2_with fail
    go_ret
    exact ⟨rfl, below_drewN BW.out _⟩
  · rw [if_neg c1]
    have b1 : (d == 0) = false := by rw [beq_eq_false_iff_ne]; exact c1
    by_cases c2 : y = -d
    · rw [if_pos c2]
      have b2 : (y == -d) = true := by rw [beq_iff_eq]; exact c2
      clear c1 c2
      go_enter Try.func29, Try.ntmps29
      go_wp2_with (go_at_call 78; refine (KA.out _).mono ?_; rintro e w' ⟨rfl, rfl⟩)
      go_quiet ((first
        | (go_at_call 79; exact Calls.quiet_of_same ((HF.out _).mono fun _ _ h => ⟨h.1, h.2.symm⟩))
        | (go_at_call 80; exact Calls.quiet_of_same ((KT.out _).mono fun _ _ h => ⟨h.1, h.2.symm⟩))))
      go_wp2_with fail
      go_quiet ((go_at_call 81; exact (HD.out _).mono fun _ _ h => ⟨h.1, _, h.2.symm⟩))
      go_wp2_with fail
      go_ret
      exact ⟨nret (by omega), below_drewN BW.out _⟩
    · rw [if_neg c2]
      have b2 : (y == -d) = false := by rw [beq_eq_false_iff_ne]; exact c2
      by_cases c3 : dir = d
      · rw [if_pos c3]
        have b3 : (dir != d) = false := by simp [c3]
        clear c1 c2 c3
        go_enter Try.func29, Try.ntmps29
        go_wp2_with (go_at_call 78; refine (KA.out _).mono ?_; rintro e w' ⟨rfl, rfl⟩)
        go_quiet ((first
          | (go_at_call 79; exact Calls.quiet_of_same ((HF.out _).mono fun _ _ h => ⟨h.1, h.2.symm⟩))
          | (go_at_call 80; exact Calls.quiet_of_same ((KT.out _).mono fun _ _ h => ⟨h.1, h.2.symm⟩))))
        go_wp2_with fail
        go_quiet ((go_at_call 81; exact (HD.out _).mono fun _ _ h => ⟨h.1, _, h.2.symm⟩))
        go_wp2_with fail
        go_ret
        exact ⟨rfl, below_drewN BW.out _⟩
      · rw [if_neg c3]
        have b3 : (dir != d) = true := by simp [c3]
        clear c1 c2 c3
        go_enter Try.func29, Try.ntmps29
        go_wp2_with (go_at_call 78; refine (KA.out _).mono ?_; rintro e w' ⟨rfl, rfl⟩)
        go_quiet ((first
          | (go_at_call 79; exact Calls.quiet_of_same ((HF.out _).mono fun _ _ h => ⟨h.1, h.2.symm⟩))
          | (go_at_call 80; exact Calls.quiet_of_same ((KT.out _).mono fun _ _ h => ⟨h.1, h.2.symm⟩))))
        go_wp2_with fail
        go_quiet ((go_at_call 81; exact (HD.out _).mono fun _ _ h => ⟨h.1, _, h.2.symm⟩))
        go_wp2_with fail
        go_ret
        exact ⟨rfl, below_drewN BW.out _⟩
theorem cost_eg (A : Option Addr) (w : World) : Calls Try.prog 29 #[.agg #[.int .i64 4, .int .i64 1, .int .i64 1, .int .i64 1, .int .i64 1, .int .i64 1, .int .i64 1, .int .i64 1, .slice A 1 1, .int .i64 1, .int .i64 9, .int .i64 1, .int .i64 1], .agg #[.int .i64 0, .int .i64 1, .int .i64 0, .int .i64 0, .bool false, .slice none 0 0], .int .i64 2, .int .i64 (-1)] w fun e w' => e = .returned (.int .i64 5) ∧ Below w.heap.size w w' :=
  cost_any (fun j => if j = 0 then 4 else if j = 10 then 9 else 1) A 1 1 0 1 0 0 false (.slice none 0 0) 2 (-1) 2 3 w (by decide) (by decide) (by decide) (by decide) (by decide) (by decide) (by decide) (by decide) (by decide) (by decide) (by decide) (by decide)
theorem least_eg (b : Nat) (w : World) (h0 : w.cell? ⟨b, 0, none⟩ = some (.int .i64 3)) (h1 : w.cell? ⟨b, 1, none⟩ = some (.int .i64 1)) (h2 : w.cell? ⟨b, 2, none⟩ = some (.int .i64 1)) :
    Calls Try.prog 26 #[.slice (some ⟨b, 0, none⟩) 3 3] w fun e w' => e = .returned (.int .i64 1) ∧ w = w' :=
  least_any (some ⟨b, 0, none⟩) 3 [3, 1, 1] w (rdI_mk (b := b) (off := 0) fun i hi => by
    have : i = 0 ∨ i = 1 ∨ i = 2 := by simp at hi; omega
    rcases this with rfl | rfl | rfl
    · exact ⟨h0, by decide⟩
    · exact ⟨h1, by decide⟩
    · exact ⟨h2, by decide⟩) (by decide)
theorem least_nil (w : World) : Calls Try.prog 26 #[.slice none 0 0] w fun e w' => e = .returned (.int .i64 (-1)) ∧ w = w' :=
  least_any none 0 [] w (fun i hi => by simp at hi) (by decide)
set_option maxHeartbeats 400000 in
theorem nalive (w : World) : Calls Try.prog 27 #[] w fun e w' => e = .returned (.bool true) ∧ Below w.heap.size w w' := by
  go_enter Try.func27, Try.ntmps27
  go_wp2_with fail
  refine (cost_eg _ _).mono ?_
  rintro e w1 ⟨rfl, hb1⟩
  go_wp2_with fail
  refine (least_eg _ _ (by simp) (by simp) (by simp)).mono ?_
  rintro e w2 ⟨rfl, rfl⟩
  go_wp2_with fail
  refine (least_nil _).mono ?_
  rintro e w3 ⟨rfl, rfl⟩
  go_wp2_with fail
  go_ret
  exact ⟨rfl, (((Below.refl _ _).alloc (Nat.le_refl _) _).trans (hb1.mono (by simp))).alloc (by have := hb1.size; simp at this; omega) _⟩
end Go.Proofs.Ytcofafiacpecnaa
