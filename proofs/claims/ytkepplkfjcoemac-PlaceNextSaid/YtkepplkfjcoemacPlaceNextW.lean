/- The walk of PlaceNext: it answers true for every input, and leaves all old blocks as they were. No condition. -/
import Derived.Test.YtkepplkfjcoemacRows
import Derived.Test.YtkepplkfjcoemacRowKit
import Derived.Test.YtkepplkfjcoemacCmp
import Derived.Test.YtkepplkfjcoemacPlaceA
import Derived.WalkKit
import Derived.ProofKit
import Derived.OpenShut
import Derived.Deep.QuietTactic
import Derived.BigQuiet
import Derived.Lib.SmallJoins
import Derived.Lib.Hide
import Derived.WalkSpells
import Derived.WalkLawsBesides
import Derived.IntWalk
import Derived.Deep.RegionHeld3
namespace Go.Proofs.Ytkepplkfjcoemac.placeNext
open Go.ChangeShapes Go.WideShapes Go.ChangeAt Go.RowKit Go.Joins
set_option linter.unusedSimpArgs false
set_option linter.unusedVariables false

set_option maxHeartbeats 1000000 in
theorem walk_out (p g d : Int) (w : World) (h : ¬ (0 ≤ p ∧ p ≤ 1048576) ∨ g < 1 ∨ 100 < g) :
    Calls Try.prog 9 #[.int .i64 p, .int .i64 g, .int .i64 d] w fun e w' => e = .returned (.bool true) ∧ ∃ k, w' = w.drewN k := by
  have HF := Lib.hid (fun n w => few_any n w)
  by_cases h1 : 0 ≤ p ∧ p ≤ 1048576
  · have d1 := decide_eq_true h1
    by_cases h2 : g < 1
    · clear h h1
      go_enter Try.func9, Try.ntmps9
      go_wp2_with (go_at_call 22; refine (HF.out _ _).mono ?_; rintro e w' ⟨rfl, rfl⟩; rw [d1])
      go_ret
      exact ⟨rfl, 0, rfl⟩
    · have h3 : 100 < g := by omega
      clear h h1
      go_enter Try.func9, Try.ntmps9
      go_wp2_with (go_at_call 22; refine (HF.out _ _).mono ?_; rintro e w' ⟨rfl, rfl⟩; rw [d1])
      go_ret
      exact ⟨rfl, 0, rfl⟩
  · have d1 := decide_eq_false h1
    clear h h1
    go_enter Try.func9, Try.ntmps9
    go_wp2_with (go_at_call 22; refine (HF.out _ _).mono ?_; rintro e w' ⟨rfl, rfl⟩; rw [d1])
    go_ret
    exact ⟨rfl, 0, rfl⟩
theorem mod_up {g q m x : Int} (hm : q * g = m) (h0 : 0 ≤ x) (h1 : x < g) : (m + x) % g = x := (ediv_of (by omega) h0 h1 (by rw [hm])).2
theorem mod_end {g q m : Int} (hm : q * g = m) (h1 : 1 ≤ g) : (m + g) % g = 0 := by
  have := (ediv_of (p := m + g) (g := g) (q := q + 1) (r := 0) h1 (by omega) (by omega) (by rw [Int.add_mul, hm]; omega)).2
  exact this
set_option maxHeartbeats 1000000 in
theorem walk_up (q g r m d : Int) (w : World) (hg : 1 ≤ g) (hg' : g ≤ 100) (hp : 0 ≤ m + r) (hp' : m + r ≤ 1048576) (hr : 0 ≤ r) (hr' : r < g) (hm : q * g = m) (hm0 : 0 ≤ m) (hq0 : 0 ≤ q) (hq1 : q ≤ 1048576) (hd : 0 < d) (hr1 : 0 < r) :
    Calls Try.prog 9 #[.int .i64 (m + r), .int .i64 g, .int .i64 d] w fun e w' => e = .returned (.bool true) ∧ ∃ k, w' = w.drewN k := by
  have HF := Lib.hid (fun n w => few_any n w)
  have d1 : decide (0 ≤ m + r ∧ m + r ≤ 1048576) = true := decide_eq_true ⟨hp, hp'⟩
  have HN := Lib.hid (fun w => next_any (m + r) g q r d w hg (by omega) hp hp' hr hr' (by rw [hm]))
  have E1 : Hid (nxT g r d = g - r) := by unfold Hid nxT; rw [if_neg (by omega), if_pos hd]
  have E2 : Hid (nxF q r d = q + 1) := by unfold Hid nxF; rw [if_neg (by omega), if_pos hd]
  have HM := Lib.hid hm
  have hgz : (g == 0) = false := by rw [beq_eq_false_iff_ne]; omega
  clear hm
  go_enter Try.func9, Try.ntmps9
  go_wp2_with (go_at_call 22; refine (HF.out _ _).mono ?_; rintro e w' ⟨rfl, rfl⟩; rw [d1])
  go_loop [8, 9] (fun p n => ∃ k : Nat, (k : Int) ≤ g - r ∧ p = .int .i64 (m + r + k) ∧ n = .int .i64 k) (fun _ n => 200 - (intOf n).toNat)
  case atStart => exact ⟨0, by omega, by simp, rfl⟩
  case round =>
    obtain ⟨k, hk, rfl, rfl⟩ := hrel
    by_cases h : (k : Int) < g - r
    · have hmod : (m + r + (k : Int)) % g = r + k := by rw [Int.add_assoc]; exact mod_up HM.out (by omega) (by omega)
      have hz : ((r + (k : Int)) == 0) = false := by rw [beq_eq_false_iff_ne]; omega
      go_wp2_with fail
      go_round
      case rel => exact ⟨k + 1, by omega, by simp; omega, by go_num⟩
      case measure => simp [intOf]; omega
    · obtain hke : (k : Int) = g - r := by omega
      have hmod : (m + r + (k : Int)) % g = 0 := by rw [show m + r + (k : Int) = m + g by omega]; exact mod_end HM.out hg
      have hdiv : (m + r + (k : Int)) / g = q + 1 := by rw [show m + r + (k : Int) = m + g by omega]; exact (ediv_of (r := 0) hg (by omega) (by omega) (by rw [Int.add_mul, HM.out]; omega)).1
      have E3 : Hid (nxT g r d = (k : Int)) := by unfold Hid; rw [E1.out]; omega
      clear hke h
      go_wp2_with (first
      | (go_at_call 31; refine (HN.out _).mono ?_; rintro e w' ⟨rfl, k8, rfl⟩; rw [E3.out, E2.out])
      | (go_at_call 27; refine (palive_any _).mono ?_; rintro e w' ⟨rfl, k9, rfl⟩))
      go_ret
      exact ⟨rfl, _, rfl⟩
set_option maxHeartbeats 1000000 in
theorem walk_dn (q g r m d : Int) (w : World) (hg : 1 ≤ g) (hg' : g ≤ 100) (hp : 0 ≤ m + r) (hp' : m + r ≤ 1048576) (hr : 0 ≤ r) (hr' : r < g) (hm : q * g = m) (hm0 : 0 ≤ m) (hq0 : 0 ≤ q) (hq1 : q ≤ 1048576) (hd : ¬ 0 < d) :
    Calls Try.prog 9 #[.int .i64 (m + r), .int .i64 g, .int .i64 d] w fun e w' => e = .returned (.bool true) ∧ ∃ k, w' = w.drewN k := by
  have HF := Lib.hid (fun n w => few_any n w)
  have d1 : decide (0 ≤ m + r ∧ m + r ≤ 1048576) = true := decide_eq_true ⟨hp, hp'⟩
  have HN := Lib.hid (fun w => next_any (m + r) g q r d w hg (by omega) hp hp' hr hr' (by rw [hm]))
  have E1 : Hid (nxT g r d = r) := by unfold Hid nxT; (split <;> first | omega | (rw [if_neg hd]))
  have E2 : Hid (nxF q r d = q) := by unfold Hid nxF; (split <;> first | rfl | (rw [if_neg hd]))
  have HM := Lib.hid hm
  have hgz : (g == 0) = false := by rw [beq_eq_false_iff_ne]; omega
  clear hm
  go_enter Try.func9, Try.ntmps9
  go_wp2_with (go_at_call 22; refine (HF.out _ _).mono ?_; rintro e w' ⟨rfl, rfl⟩; rw [d1])
  go_loop [8, 9] (fun p n => ∃ k : Nat, (k : Int) ≤ r ∧ p = .int .i64 (m + r - k) ∧ n = .int .i64 k) (fun _ n => 200 - (intOf n).toNat)
  case atStart => exact ⟨0, by omega, by simp, rfl⟩
  case round =>
    obtain ⟨k, hk, rfl, rfl⟩ := hrel
    by_cases h : (k : Int) < r
    · have hmod : (m + r - (k : Int)) % g = r - k := by rw [Int.add_sub_assoc]; exact mod_up HM.out (by omega) (by omega)
      have hz : ((r - (k : Int)) == 0) = false := by rw [beq_eq_false_iff_ne]; omega
      go_wp2_with fail
      go_round
      case rel => exact ⟨k + 1, by omega, by simp; omega, by go_num⟩
      case measure => simp [intOf]; omega
    · obtain hke : (k : Int) = r := by omega
      have hmod : (m + r - (k : Int)) % g = 0 := by rw [show m + r - (k : Int) = m + 0 by omega]; exact mod_up HM.out (by omega) (by omega)
      have hdiv : (m + r - (k : Int)) / g = q := by rw [show m + r - (k : Int) = m by omega]; exact (ediv_of (r := 0) hg (by omega) (by omega) (by rw [HM.out]; omega)).1
      have E3 : Hid (nxT g r d = (k : Int)) := by unfold Hid; rw [E1.out]; omega
      clear hke h
      go_wp2_with (first
      | (go_at_call 31; refine (HN.out _).mono ?_; rintro e w' ⟨rfl, k8, rfl⟩; rw [E3.out, E2.out])
      | (go_at_call 27; refine (palive_any _).mono ?_; rintro e w' ⟨rfl, k9, rfl⟩))
      go_ret
      exact ⟨rfl, _, rfl⟩
set_option maxHeartbeats 1000000 in
theorem walk_z (q g m d : Int) (w : World) (hg : 1 ≤ g) (hg' : g ≤ 100) (hp : 0 ≤ m) (hp' : m ≤ 1048576) (hm : q * g = m) (hq0 : 0 ≤ q) (hq1 : q ≤ 1048576) (hd : 0 < d) :
    Calls Try.prog 9 #[.int .i64 m, .int .i64 g, .int .i64 d] w fun e w' => e = .returned (.bool true) ∧ ∃ k, w' = w.drewN k := by
  have HF := Lib.hid (fun n w => few_any n w)
  have d1 : decide (0 ≤ m ∧ m ≤ 1048576) = true := decide_eq_true ⟨hp, hp'⟩
  have HN := Lib.hid (fun w => next_any m g q 0 d w hg (by omega) hp hp' (by omega) (by omega) (by rw [hm]; omega))
  have E1 : Hid (nxT g 0 d = 0) := by unfold Hid nxT; rw [if_pos rfl]
  have E2 : Hid (nxF q 0 d = q) := by unfold Hid nxF; rw [if_pos rfl]
  obtain ⟨hdiv, hmod⟩ := ediv_of (p := m) (q := q) (r := 0) hg (by omega) (by omega) (by rw [hm]; omega)
  have hgz : (g == 0) = false := by rw [beq_eq_false_iff_ne]; omega
  clear hm
  go_enter Try.func9, Try.ntmps9
  go_wp2_with (go_at_call 22; refine (HF.out _ _).mono ?_; rintro e w' ⟨rfl, rfl⟩; rw [d1])
  go_loop [8, 9] (fun p n => p = .int .i64 m ∧ n = .int .i64 0) (fun _ n => 0)
  case atStart => exact ⟨rfl, rfl⟩
  case round =>
    obtain ⟨rfl, rfl⟩ := hrel
    go_wp2_with (first
      | (go_at_call 31; refine (HN.out _).mono ?_; rintro e w' ⟨rfl, k8, rfl⟩; rw [E1.out, E2.out])
      | (go_at_call 27; refine (palive_any _).mono ?_; rintro e w' ⟨rfl, k9, rfl⟩))
    go_ret
    exact ⟨rfl, _, rfl⟩
theorem walk {p g d : Int} (w0 : (Lit.int .i64 p).wf = true) (w1 : (Lit.int .i64 g).wf = true) (w2 : (Lit.int .i64 d).wf = true) (w : World) :
    Calls Try.prog 9 #[.int .i64 p, .int .i64 g, .int .i64 d] w fun e w' => e = .returned (.bool true) ∧ Below w.heap.size w w' := by
  have fin : Calls Try.prog 9 #[.int .i64 p, .int .i64 g, .int .i64 d] w fun e w' => e = .returned (.bool true) ∧ ∃ k, w' = w.drewN k := by
    by_cases h : (0 ≤ p ∧ p ≤ 1048576) ∧ (1 ≤ g ∧ g ≤ 100)
    · obtain ⟨⟨p0, p1⟩, g0, g1⟩ := h
      have hd := Int.emod_add_mul_ediv p g
      have hr := Int.emod_nonneg p (show g ≠ 0 by omega)
      have hr' := Int.emod_lt_of_pos p (show 0 < g by omega)
      have hq : 0 ≤ p / g := Int.ediv_nonneg p0 (by omega)
      have hq1 : p / g ≤ p := Int.ediv_le_self _ p0
      rw [Int.mul_comm] at hd
      obtain ⟨r, er⟩ : ∃ r, p % g = r := ⟨_, rfl⟩
      obtain ⟨q, eq⟩ : ∃ q, p / g = q := ⟨_, rfl⟩
      rw [er] at hd hr hr'
      rw [eq] at hd hq hq1
      obtain ⟨m, hm⟩ : ∃ m, q * g = m := ⟨_, rfl⟩
      have hm0 : 0 ≤ m := by rw [← hm]; exact Int.mul_nonneg hq (by omega)
      rw [hm] at hd
      obtain rfl : p = m + r := by omega
      by_cases x : 0 < d ∧ 0 < r
      · exact walk_up q g r m d w g0 g1 p0 p1 hr hr' hm hm0 hq (by omega) x.1 x.2
      · by_cases x2 : 0 < d
        · obtain rfl : r = 0 := by omega
          rw [Int.add_zero]
          exact walk_z q g m d w g0 g1 (by omega) (by omega) hm hq (by omega) x2
        · exact walk_dn q g r m d w g0 g1 p0 p1 hr hr' hm hm0 hq (by omega) x2
    · exact walk_out p g d w (by omega)
  exact fin.mono fun e w' ⟨h1, k, h2⟩ => ⟨h1, h2 ▸ below_drewN (Below.refl _ _) k⟩

end Go.Proofs.Ytkepplkfjcoemac.placeNext
