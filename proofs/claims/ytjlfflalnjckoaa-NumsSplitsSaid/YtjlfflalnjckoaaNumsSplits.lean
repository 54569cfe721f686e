/- The law NumsSplits answers true for every input, and leaves its arguments alone. No condition. -/
import Derived.Test.YtjlfflalnjckoaaRows
import Derived.Test.YtjlfflalnjckoaaNumsA
import Derived.Test.YtjlfflalnjckoaaNumsB
import Derived.Test.YtjlfflalnjckoaaNumsC
import Derived.Test.YtjlfflalnjckoaaNumsD
import Derived.WalkKit
import Derived.ProofKit
import Derived.OpenShut
import Derived.Deep.QuietTactic
import Derived.BigQuiet
namespace Go.Proofs.Ytjlfflalnjckoaa.numsSplits
open Go.ChangeShapes Go.WideShapes Go.ChangeAt Go.RowKit
set_option linter.unusedSimpArgs false
set_option linter.unusedVariables false
theorem own : ownKnob Try.prog.godebug = none := by kernel_rfl

set_option linter.unusedVariables false
set_option maxHeartbeats 400000 in
theorem walk0 (a0 : Int) (w : World) (b0 : -9223372036854775808 ≤ a0) (c0 : a0 ≤ 9223372036854775807) :
    Calls Try.prog 8 #[.int .i64 a0, .int .i64 0] w fun e w' => e = .returned (.bool true) ∧ Grown w w' := by
  go_enter Try.func8, Try.ntmps8
  go_wp2_with (first
    | (go_at_call 19; refine (div_zero _ _).mono ?_; rintro e w' ⟨rfl, rfl⟩)
    | (go_at_call 16; refine (alive_any _).mono ?_; rintro e w' ⟨rfl, rfl⟩))
  go_ret
  exact ⟨rfl, by repeat (first | exact Grown.refl _ | apply Grown.drew | apply Grown.alloc)⟩
theorem div_no (a b q r : Int) (w : World) (b0 : -9223372036854775808 ≤ a) (c0 : a ≤ 9223372036854775807) (b1 : -9223372036854775808 ≤ b) (c1 : b ≤ 9223372036854775807)
    (h : IsDiv a b q r) (hq : 9223372036854775807 < q) : Calls Try.prog 19 #[.int .i64 a, .int .i64 b] w fun e w' => e = .returned (.tuple #[.int .i64 0, .int .i64 10]) ∧ w = w' := by
  have := div_any a b q r w b0 c0 b1 c1 h
  rwa [(fit_no (.inr hq)).1, (fit_no (.inr hq)).2] at this
theorem div_ok (a b q r : Int) (w : World) (b0 : -9223372036854775808 ≤ a) (c0 : a ≤ 9223372036854775807) (b1 : -9223372036854775808 ≤ b) (c1 : b ≤ 9223372036854775807)
    (h : IsDiv a b q r) (hq : -9223372036854775808 ≤ q ∧ q ≤ 9223372036854775807) : Calls Try.prog 19 #[.int .i64 a, .int .i64 b] w fun e w' => e = .returned (.tuple #[.int .i64 q, .int .i64 0]) ∧ w = w' := by
  have := div_any a b q r w b0 c0 b1 c1 h
  rwa [(fit_yes hq).1, (fit_yes hq).2] at this
theorem sub_no (a b : Int) (w : World) (b0 : -9223372036854775808 ≤ a) (c0 : a ≤ 9223372036854775807) (b1 : -9223372036854775808 ≤ b) (c1 : b ≤ 9223372036854775807)
    (hq : a - b < -9223372036854775808 ∨ 9223372036854775807 < a - b) : Calls Try.prog 10 #[.int .i64 a, .int .i64 b] w fun e w' => e = .returned (.tuple #[.int .i64 0, .int .i64 10]) ∧ w = w' := by
  have := sub_any a b w b0 c0 b1 c1
  rwa [(fit_no hq).1, (fit_no hq).2] at this
theorem sub_ok (a b : Int) (w : World) (b0 : -9223372036854775808 ≤ a) (c0 : a ≤ 9223372036854775807) (b1 : -9223372036854775808 ≤ b) (c1 : b ≤ 9223372036854775807)
    (hq : -9223372036854775808 ≤ a - b ∧ a - b ≤ 9223372036854775807) : Calls Try.prog 10 #[.int .i64 a, .int .i64 b] w fun e w' => e = .returned (.tuple #[.int .i64 (a - b), .int .i64 0]) ∧ w = w' := by
  have := sub_any a b w b0 c0 b1 c1
  rwa [(fit_yes hq).1, (fit_yes hq).2] at this
set_option maxHeartbeats 400000 in
theorem walk1 (a0 a1 : Int) (w : World) (b0 : -9223372036854775808 ≤ a0) (c0 : a0 ≤ 9223372036854775807) (b1 : -9223372036854775808 ≤ a1) (c1 : a1 ≤ 9223372036854775807)
    (q r : Int) (h : Hid (IsDiv a0 a1 q r)) (hz : (a1 == 0) = false) (hq : 9223372036854775807 < q) :
    Calls Try.prog 8 #[.int .i64 a0, .int .i64 a1] w fun e w' => e = .returned (.bool true) ∧ Grown w w' := by
  go_enter Try.func8, Try.ntmps8
  go_wp2_with (first
    | (go_at_call 19; refine (div_no _ _ _ _ _ b0 c0 b1 c1 h.out hq).mono ?_; rintro e w' ⟨rfl, rfl⟩)
    | (go_at_call 16; refine (alive_any _).mono ?_; rintro e w' ⟨rfl, rfl⟩))
  go_ret
  exact ⟨rfl, by repeat (first | exact Grown.refl _ | apply Grown.drew | apply Grown.alloc)⟩
set_option maxHeartbeats 400000 in
theorem walk2 (a0 a1 : Int) (w : World) (b0 : -9223372036854775808 ≤ a0) (c0 : a0 ≤ 9223372036854775807) (b1 : -9223372036854775808 ≤ a1) (c1 : a1 ≤ 9223372036854775807)
    (q r : Int) (h : Hid (IsDiv a0 a1 q r)) (hz : (a1 == 0) = false) (q0 : -9223372036854775808 ≤ q) (q1 : q ≤ 9223372036854775807) (r0 : -9223372036854775808 ≤ r) (r1 : r ≤ 9223372036854775807)
    (hs : a0 - r < -9223372036854775808 ∨ 9223372036854775807 < a0 - r) :
    Calls Try.prog 8 #[.int .i64 a0, .int .i64 a1] w fun e w' => e = .returned (.bool true) ∧ Grown w w' := by
  have S := Lib.hid hs
  clear hs
  go_enter Try.func8, Try.ntmps8
  go_wp2_with (first
    | (go_at_call 19; refine (div_ok _ _ _ _ _ b0 c0 b1 c1 h.out ⟨q0, q1⟩).mono ?_; rintro e w' ⟨rfl, rfl⟩)
    | (go_at_call 21; refine (mod_any _ _ _ _ _ b0 c0 b1 c1 h.out).mono ?_; rintro e w' ⟨rfl, rfl⟩)
    | (go_at_call 10; refine (sub_no _ _ _ b0 c0 r0 r1 S.out).mono ?_; rintro e w' ⟨rfl, rfl⟩)
    | (go_at_call 16; refine (alive_any _).mono ?_; rintro e w' ⟨rfl, rfl⟩))
  go_ret
  exact ⟨rfl, by repeat (first | exact Grown.refl _ | apply Grown.drew | apply Grown.alloc)⟩
theorem sub_zero (a : Int) (w : World) (b0 : -9223372036854775808 ≤ a) (c0 : a ≤ 9223372036854775807) : Calls Try.prog 10 #[.int .i64 a, .int .i64 0] w fun e w' => e = .returned (.tuple #[.int .i64 a, .int .i64 0]) ∧ w = w' := by
  have := sub_ok a 0 w b0 c0 (by omega) (by omega) (by omega)
  rwa [Int.sub_zero] at this
set_option maxHeartbeats 400000 in
theorem walk3 (a0 a1 : Int) (w : World) (b0 : -9223372036854775808 ≤ a0) (c0 : a0 ≤ 9223372036854775807) (b1 : -9223372036854775808 ≤ a1) (c1 : a1 ≤ 9223372036854775807)
    (q : Int) (h : Hid (IsDiv a0 a1 q 0)) (hz : (a1 == 0) = false) (q0 : -9223372036854775808 ≤ q) (q1 : q ≤ 9223372036854775807)
    (E : Hid (q * a1 = a0)) (l1 : 0 < (a1.natAbs : Int)) :
    Calls Try.prog 8 #[.int .i64 a0, .int .i64 a1] w fun e w' => e = .returned (.bool true) ∧ Grown w w' := by
  go_enter Try.func8, Try.ntmps8
  go_wp2_with (first
    | (go_at_call 19; refine (div_ok _ _ _ _ _ b0 c0 b1 c1 h.out ⟨q0, q1⟩).mono ?_; rintro e w' ⟨rfl, rfl⟩)
    | (go_at_call 21; refine (mod_any _ _ _ _ _ b0 c0 b1 c1 h.out).mono ?_; rintro e w' ⟨rfl, rfl⟩)
    | (go_at_call 10; refine (sub_zero _ _ b0 c0).mono ?_; rintro e w' ⟨rfl, rfl⟩)
    | (go_at_call 17; refine (mul_ok _ _ _ _ q0 q1 b1 c1 E.out ⟨b0, c0⟩).mono ?_; rintro e w' ⟨rfl, rfl⟩)
    | (go_at_call 14; refine (size_any _ _ (by omega) (by omega)).mono ?_; rintro e w' ⟨rfl, rfl⟩)
    | (go_at_call 16; refine (alive_any _).mono ?_; rintro e w' ⟨rfl, rfl⟩))
  go_ret
  exact ⟨rfl, by repeat (first | exact Grown.refl _ | apply Grown.drew | apply Grown.alloc)⟩
set_option maxHeartbeats 400000 in
theorem walk4 (a0 a1 : Int) (w : World) (b0 : -9223372036854775808 ≤ a0) (c0 : a0 ≤ 9223372036854775807) (b1 : -9223372036854775808 ≤ a1) (c1 : a1 ≤ 9223372036854775807)
    (q r : Int) (h : Hid (IsDiv a0 a1 q r)) (hz : (a1 == 0) = false) (q0 : -9223372036854775808 ≤ q) (q1 : q ≤ 9223372036854775807) (r0 : -9223372036854775808 ≤ r) (r1 : r ≤ 9223372036854775807)
    (s0 : -9223372036854775808 ≤ a0 - r) (s1 : a0 - r ≤ 9223372036854775807) (E : Hid (q * a1 = a0 - r)) (l1 : (r.natAbs : Int) < (a1.natAbs : Int)) (l2 : (r == 0) = false) (l3 : (decide (r < 0) == decide (a1 < 0)) = true) :
    Calls Try.prog 8 #[.int .i64 a0, .int .i64 a1] w fun e w' => e = .returned (.bool true) ∧ Grown w w' := by
  go_enter Try.func8, Try.ntmps8
  go_wp2_with (first
    | (go_at_call 19; refine (div_ok _ _ _ _ _ b0 c0 b1 c1 h.out ⟨q0, q1⟩).mono ?_; rintro e w' ⟨rfl, rfl⟩)
    | (go_at_call 21; refine (mod_any _ _ _ _ _ b0 c0 b1 c1 h.out).mono ?_; rintro e w' ⟨rfl, rfl⟩)
    | (go_at_call 10; refine (sub_ok _ _ _ b0 c0 r0 r1 ⟨s0, s1⟩).mono ?_; rintro e w' ⟨rfl, rfl⟩)
    | (go_at_call 17; refine (mul_ok _ _ _ _ q0 q1 b1 c1 E.out ⟨s0, s1⟩).mono ?_; rintro e w' ⟨rfl, rfl⟩)
    | (go_at_call 14; refine (size_any _ _ (by omega) (by omega)).mono ?_; rintro e w' ⟨rfl, rfl⟩)
    | (go_at_call 16; refine (alive_any _).mono ?_; rintro e w' ⟨rfl, rfl⟩))
  go_ret
  exact ⟨rfl, by repeat (first | exact Grown.refl _ | apply Grown.drew | apply Grown.alloc)⟩
theorem walk (a0 a1 : Int) (w0 : (Lit.int .i64 a0).wf = true) (w1 : (Lit.int .i64 a1).wf = true) (w : World) :
    Calls Try.prog 8 #[.int .i64 a0, .int .i64 a1] w fun e w' => e = .returned (.bool true) ∧ Grown w w' := by
  obtain ⟨b0, c0⟩ := bounds_i64 w0
  obtain ⟨b1, c1⟩ := bounds_i64 w1
  by_cases hz : a1 = 0
  · subst hz; exact walk0 a0 w b0 c0
  · have H := isDiv_ex a0 a1 hz
    have hz' : (a1 == 0) = false := by simp [hz]
    generalize a0.fdiv a1 = q at H
    generalize a0.fmod a1 = r at H
    have hh := isDiv_hi H b0 c0
    by_cases hq : 9223372036854775807 < q
    · exact walk1 a0 a1 w b0 c0 b1 c1 q r H hz' hq
    · have h2 := H.2
      by_cases hs : a0 - r < -9223372036854775808 ∨ 9223372036854775807 < a0 - r
      · exact walk2 a0 a1 w b0 c0 b1 c1 q r H hz' hh.1 (by omega) (by omega) (by omega) hs
      · have h1 := H.1
        have e : q * a1 = a0 - r := by rw [Int.mul_comm]; omega
        by_cases hr : r = 0
        · subst hr
          exact walk3 a0 a1 w b0 c0 b1 c1 q H hz' hh.1 (by omega) (by show q * a1 = a0; omega) (by omega)
        · exact walk4 a0 a1 w b0 c0 b1 c1 q r H hz' hh.1 (by omega) (by omega) (by omega) (by omega) (by omega) e (by omega) (by simp [hr]) (by simp only [beq_iff_eq, decide_eq_decide]; omega)


set_option maxRecDepth 100000 in
theorem lifted (os : Os) (started : os.Started) (H : Type) (enc : TypeId × Value → H) :
    ReturnsInHanded {} Try.checked os 8 .any (Rows.numsSplitsSpec.pre6 enc Try.prog Try.f8 Rows.numsSplitsRow.domain false) (Rows.numsSplitsSpec.post enc Try.prog Try.f8 false true false false) := by
  refine returnsInHanded_of_change (C := Try.checked) own started (by kernel_rfl) Try.func8
    (ChangeSpec.witness6 (enc := enc) (C := Try.checked) false ⟨#[], #[.int .i64 0, .int .i64 0], []⟩ 8 (by kernel_rfl) (by kernel_rfl) (by kernel_rfl) (by kernel_rfl)) ?_
  intro W base args ds gs before hval0 hW hcnd _
  have hval : ∀ (j : Nat) t v, Try.f8.params[j]? = some t → args[j]? = some v → Value.okWide Try.prog W .any base t v := hval0
  have hW' := hW
  obtain ⟨p, q, hA0, hV, rfl, hfz, hnd⟩ := hW
  have hA : DataW.TrodAll enc Try.prog W 0 (fun _ => true) true Try.f8.params.toList args.toList ds p := hA0
  rw [Try.params8] at hA hval
  obtain ⟨v0, vs0, d0, ds0, p0, q0, hargs, rfl, rfl, h0, r0⟩ := trodAll_cons hA
  obtain ⟨v1, vs1, d1, ds1, p1, q1, rfl, rfl, rfl, h1, r1⟩ := trodAll_cons r0
  obtain ⟨rfl, rfl, rfl⟩ := trodAll_nil r1
  obtain rfl : args = #[v0, v1] := by cases args; simp_all
  obtain ⟨rfl, rfl⟩ := trodVars_none hV
  obtain ⟨a0, rfl, rfl, rfl, w0⟩ := open_int Try.underlying2 (hval 0 2 v0 rfl rfl) h0
  obtain ⟨a1, rfl, rfl, rfl, w1⟩ := open_int Try.underlying2 (hval 1 2 v1 rfl rfl) h1
  clear hA0 hval0
  simp only [List.append_nil] at hW'
  refine (walk a0 a1 w0 w1 W).mono fun e W' ⟨he, hg⟩ => ?_
  subst he
  exact ⟨_, rfl, post_of_same (pa := []) (pv := []) hW' (fun _ _ _ => (trodAll_cons_mk (shut_bool Try.underlying4 _) trodAll_mk0)) (fun sp _ => (trodAll_cons_mk (shut_int Try.underlying2 w0) (trodAll_cons_mk (shut_int Try.underlying2 w1) trodAll_mk0))) (fun _ _ => rfl) rfl
    (hg.frame _) hg.2.1 (ok_one (by kernel_rfl) rfl (okWide_bool_mk Try.underlying4 _))⟩

theorem over : Rows.numsSplitsRow.holds Try.pinned (OpenSpec.ofChange Rows.numsSplitsSpec) :=
  OpenClaim.holds_of_wide 8 Try.f8 rfl rfl rfl rfl rfl rfl rfl ⟨rfl, rfl, rfl, rfl, rfl⟩ rfl rfl rfl rfl rfl (by kernel_rfl) Try.func8 (by kernel_rfl)
    (of_decide_eq_true (by kernel_rfl)) (by unfold Func.isWrapper; first | (rw [if_pos (by decide +kernel)]; kernel_rfl) | (rw [if_neg (by decide +kernel)]; exact ⟨rfl, rfl⟩))
    (fun os started H enc _ => lifted os started H enc)

theorem proved : Rows.NumsSplitsSaid :=
  over

end Go.Proofs.Ytjlfflalnjckoaa.numsSplits
