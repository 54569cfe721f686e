/- Contracts of place.At, Floor, Far, Sign, Dir, Next, Right, Top and of the law's own helpers. -/
import Derived.Test.YtbjcigkakeffmaaDoorRows
import Derived.Test.YtbjcigkakeffmaaDoorKitM
import Derived.Test.YtbjcigkakeffmaaDoorCmp
import Derived.WalkKit
import Derived.IntWalk
import Derived.Lib.Hide
import Derived.WalkSpells
import Derived.WalkLawsBesides
import Derived.Deep.QuietTactic
import Derived.BigQuiet
namespace Go.Proofs.YtbjcigkakeffmaaDoor
open Go.RowKit
set_option linter.unusedSimpArgs false
set_option linter.unusedVariables false
theorem ediv_of {p g q r : Int} (hg : 1 ≤ g) (hr : 0 ≤ r) (hr' : r < g) (e : p = q * g + r) : p / g = q ∧ p % g = r := by
  subst e
  have h0 : g ≠ 0 := by omega
  refine ⟨?_, ?_⟩
  · rw [Int.add_comm, Int.add_mul_ediv_right _ _ h0, Int.ediv_eq_zero_of_lt hr hr']; omega
  · rw [Int.add_comm, Int.add_mul_emod_self_right, Int.emod_eq_of_lt hr hr']
theorem retBool {a b : Bool} (h : a = b) : Ending.returned (.bool a) = .returned (.bool b) := by rw [h]
set_option maxHeartbeats 400000 in
theorem at_any (f g m : Int) (w : World) (e : f * g = m) (h0 : -9223372036854775808 ≤ m) (h1 : m ≤ 9223372036854775807) :
    Calls Tryd.prog 21 #[.int .i64 f, .int .i64 g] w fun e w' => e = .returned (.int .i64 m) ∧ w = w' := by
  have hw : IntKind.i64.wrap (f * g) = m := by rw [e]; exact IntWalk.i64_in _ (by omega)
  go_enter Tryd.func21, Tryd.ntmps21
  go_wp2_with fail
  go_ret
  exact ⟨rfl, rfl⟩
set_option maxHeartbeats 400000 in
theorem floor_any (p g q r : Int) (w : World) (hg : 1 ≤ g) (hp : 0 ≤ p) (hp' : p ≤ 9223372036854775807) (hr : 0 ≤ r) (hr' : r < g) (e : p = q * g + r) :
    Calls Tryd.prog 45 #[.int .i64 p, .int .i64 g] w fun e w' => e = .returned (.tuple #[.int .i64 q, .bool (decide (r = 0))]) ∧ ∃ k, w' = w.drewN k := by
  obtain ⟨e1, e2⟩ := ediv_of hg hr hr' e
  have hz : (g == 0) = false := by rw [beq_eq_false_iff_ne]; omega
  have E1 := Lib.hid e1
  have E2 := Lib.hid e2
  clear e e1 e2
  go_enter Tryd.func45, Tryd.ntmps45
  go_wp2_with fail
  try go_region
  all_goals go_wp2_with fail
  all_goals go_ret2
  all_goals exact ⟨by rw [E1.out, E2.out]; rfl, _, rfl⟩
/-- how far it is -/
def farV (a b : Int) : Int := if a ≤ b then b - a else a - b
set_option maxHeartbeats 400000 in
theorem far_any (a b : Int) (w : World) (h0 : 0 ≤ a) (h1 : a ≤ 1073741824) (h2 : 0 ≤ b) (h3 : b ≤ 1073741824) :
    Calls Tryd.prog 27 #[.int .i64 a, .int .i64 b] w fun e w' => e = .returned (.int .i64 (farV a b)) ∧ w = w' := by
  rcases Int.lt_trichotomy a b with h | h | h
  · have m1 : max a b = b := by omega
    have m2 : min a b = a := by omega
    have m3 : ¬ b ≤ a := by omega
    have m4 : a ≤ b := by omega
    unfold farV
    rw [if_pos m4]
    go_enter Tryd.func27, Tryd.ntmps27
    go_wp2_with fail
    go_ret
    exact ⟨rfl, rfl⟩
  · subst h
    unfold farV
    rw [if_pos (Int.le_refl a), Int.sub_self]
    go_enter Tryd.func27, Tryd.ntmps27
    go_wp2_with fail
    all_goals
      go_ret
      exact ⟨rfl, rfl⟩
  · have m1 : max a b = a := by omega
    have m2 : min a b = b := by omega
    have m3 : ¬ a ≤ b := by omega
    unfold farV
    rw [if_neg m3]
    go_enter Tryd.func27, Tryd.ntmps27
    go_wp2_with fail
    go_ret
    exact ⟨rfl, rfl⟩
/-- how many ticks it takes to the next floor, and which it is -/
def nxT (g r d : Int) : Int := if r = 0 then 0 else if 0 < d then g - r else r
def nxF (q r d : Int) : Int := if r = 0 then q else if 0 < d then q + 1 else q
set_option maxHeartbeats 400000 in
theorem pnext_any (p g q r d : Int) (w : World) (hg : 1 ≤ g) (hg' : g ≤ 1048576) (hp : 0 ≤ p) (hp' : p ≤ 1048576) (hr : 0 ≤ r) (hr' : r < g) (e : p = q * g + r) :
    Calls Tryd.prog 24 #[.int .i64 p, .int .i64 g, .int .i64 d] w fun e w' => e = .returned (.tuple #[.int .i64 (nxT g r d), .int .i64 (nxF q r d)]) ∧ ∃ k, w' = w.drewN k := by
  have F := floor_any p g q r
  obtain ⟨m, hm⟩ : ∃ m, q * g = m := ⟨_, rfl⟩
  have hm1 : (q + 1) * g = m + g := by rw [Int.add_mul]; omega
  have hq : -1 ≤ q := by
    by_cases h : q < -1
    · have := Int.mul_le_mul_of_nonneg_right (show q ≤ -2 by omega) (show 0 ≤ g by omega); omega
    · omega
  have hq' : q ≤ 1048576 := by
    by_cases h : 1048576 < q
    · have := Int.mul_le_mul_of_nonneg_right (show 1048577 ≤ q by omega) (show 0 ≤ g by omega); omega
    · omega
  have A := at_any q g m
  have A1 := at_any (q + 1) g (m + g)
  rw [hm] at e
  have E := Lib.hid hm
  have E1 := Lib.hid hm1
  have HE := Lib.hid e
  have HF := Lib.hid F
  have HA := Lib.hid A
  have HA1 := Lib.hid A1
  have b1 : 0 ≤ m := by
    by_cases h : q < 0
    · have h1 : q = -1 := by omega
      rw [h1] at hm; omega
    · rw [← hm]; exact Int.mul_nonneg (by omega) (by omega)
  have b2 : m ≤ 1048576 := by omega
  clear F A A1 hm hm1
  by_cases h0 : r = 0
  · have hd : decide (r = 0) = true := by simp [h0]
    have hf : farV p m = nxT g r d := by unfold nxT farV; rw [if_pos h0]; split <;> omega
    have hF : q = nxF q r d := by unfold nxF; rw [if_pos h0]
    have HFR := Lib.hid (far_any p m)
    have Hf := Lib.hid hf
    have HQ := Lib.hid hF
    have D := Lib.hid hd
    clear hf hF hd e h0
    go_enter Tryd.func24, Tryd.ntmps24
    go_wp2_with (first
      | (go_at_call 45; refine (HF.out _ hg hp (by omega) hr hr' (by rw [E.out]; exact HE.out)).mono ?_; rintro e w' ⟨rfl, k, rfl⟩; rw [D.out])
      | (go_at_call 21; refine (HA.out _ E.out (by omega) (by omega)).mono ?_; rintro e w' ⟨rfl, rfl⟩)
      | (go_at_call 27; refine (HFR.out _ hp (by omega) b1 (by omega)).mono ?_; rintro e w' ⟨rfl, rfl⟩))
    go_ret2
    exact ⟨by rw [Hf.out, ← HQ.out]; rfl, _, rfl⟩
  · have hd : decide (r = 0) = false := by simp [h0]
    by_cases h1 : 0 < d
    · have hf : farV p (m + g) = nxT g r d := by unfold nxT farV; rw [if_neg h0, if_pos h1]; split <;> omega
      have hF : q + 1 = nxF q r d := by unfold nxF; rw [if_neg h0, if_pos h1]
      have HFR := Lib.hid (far_any p (m + g))
      have Hf := Lib.hid hf
      have HQ := Lib.hid hF
      have D := Lib.hid hd
      clear hf hF hd e h0
      go_enter Tryd.func24, Tryd.ntmps24
      go_wp2_with (first
        | (go_at_call 45; refine (HF.out _ hg hp (by omega) hr hr' (by rw [E.out]; exact HE.out)).mono ?_; rintro e w' ⟨rfl, k, rfl⟩; rw [D.out])
        | (go_at_call 21; refine (HA1.out _ E1.out (by omega) (by omega)).mono ?_; rintro e w' ⟨rfl, rfl⟩)
        | (go_at_call 27; refine (HFR.out _ hp (by omega) (by omega) (by omega)).mono ?_; rintro e w' ⟨rfl, rfl⟩))
      go_ret2
      exact ⟨by rw [Hf.out, ← HQ.out]; rfl, _, rfl⟩
    · have hf : farV p m = nxT g r d := by unfold nxT farV; rw [if_neg h0, if_neg h1]; split <;> omega
      have hF : q = nxF q r d := by unfold nxF; rw [if_neg h0, if_neg h1]
      have HFR := Lib.hid (far_any p m)
      have Hf := Lib.hid hf
      have HQ := Lib.hid hF
      have D := Lib.hid hd
      clear hf hF hd e h0
      go_enter Tryd.func24, Tryd.ntmps24
      go_wp2_with (first
        | (go_at_call 45; refine (HF.out _ hg hp (by omega) hr hr' (by rw [E.out]; exact HE.out)).mono ?_; rintro e w' ⟨rfl, k, rfl⟩; rw [D.out])
        | (go_at_call 21; refine (HA.out _ E.out (by omega) (by omega)).mono ?_; rintro e w' ⟨rfl, rfl⟩)
        | (go_at_call 27; refine (HFR.out _ hp (by omega) b1 (by omega)).mono ?_; rintro e w' ⟨rfl, rfl⟩))
      go_ret2
      exact ⟨by rw [Hf.out, ← HQ.out]; rfl, _, rfl⟩
set_option maxHeartbeats 400000 in
theorem dir_any (a b : Int) (w : World) :
    Calls Tryd.prog 22 #[.int .i64 a, .int .i64 b] w fun e w' => e = .returned (.int .i64 (cmpI b a)) ∧ w = w' := by
  go_enter Tryd.func22, Tryd.ntmps22
  go_wp2_with (go_at_call 44; refine (compareI _ _ _).mono ?_; rintro e w' ⟨rfl, rfl⟩)
  go_ret
  exact ⟨rfl, rfl⟩
end Go.Proofs.YtbjcigkakeffmaaDoor
