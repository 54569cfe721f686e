/- Contracts of sector.Car, Span, Home. -/
import Derived.Test.YtcofafiacpecnaaRows
import Derived.Test.YtcofafiacpecnaaRowKit
import Derived.Test.YtcofafiacpecnaaSectorMath
import Derived.WalkKit
import Derived.IntWalk
import Derived.Lib.Hide
import Derived.WalkSpells
import Derived.WalkLawsBesides
import Derived.Deep.QuietTactic
import Derived.BigQuiet
namespace Go.Proofs.Ytcofafiacpecnaa
open Go.RowKit
set_option linter.unusedSimpArgs false
set_option linter.unusedVariables false
theorem sret {k : IntKind} {a b : Int} (h : a = b) : Ending.returned (.int k a) = .returned (.int k b) := by rw [h]
theorem sret2 {k : IntKind} {a b c d : Int} (h : a = b) (h' : c = d) : Ending.returned (.tuple #[.int k a, .int k c]) = .returned (.tuple #[.int k b, .int k d]) := by rw [h, h']
set_option maxHeartbeats 400000 in
theorem first_any (F C c P q : Int) (w : World) (hC : 1 ≤ C) (hC' : C ≤ 128) (hP : c * F = P) (hP0 : 0 ≤ P) (hP1 : P ≤ 20000) (hq : (P + C - 1) / C = q) :
    Calls Try.prog 83 #[.int .i64 F, .int .i64 C, .int .i64 c] w fun e w' => e = .returned (.int .i64 q) ∧ w = w' := by
  have hw : IntKind.i64.wrap (c * F) = P := by rw [hP]; exact IntWalk.i64_in _ (by omega)
  have hz : (C == 0) = false := by rw [beq_eq_false_iff_ne]; omega
  have HQ := Lib.hid hq
  clear hP hq
  go_enter Try.func83, Try.ntmps83
  go_wp2_with fail
  go_ret
  exact ⟨sret HQ.out, rfl⟩
set_option maxHeartbeats 400000 in
theorem scar_any (F C f P q : Int) (w : World) (hF : 1 ≤ F) (hF' : F ≤ 128) (hP : f * C = P) (hP0 : 0 ≤ P) (hP1 : P ≤ 20000) (hq : P / F = q) :
    Calls Try.prog 35 #[.int .i64 F, .int .i64 C, .int .i64 f] w fun e w' => e = .returned (.int .i64 q) ∧ w = w' := by
  have hw : IntKind.i64.wrap (f * C) = P := by rw [hP]; exact IntWalk.i64_in _ (by omega)
  have hz : (F == 0) = false := by rw [beq_eq_false_iff_ne]; omega
  have HQ := Lib.hid hq
  clear hP hq
  go_enter Try.func35, Try.ntmps35
  go_wp2_with fail
  go_ret
  exact ⟨sret HQ.out, rfl⟩
set_option maxHeartbeats 400000 in
theorem span_any (F C c P Q q r : Int) (w : World) (hC : 1 ≤ C) (hC' : C ≤ 128) (hc : 0 ≤ c) (hc' : c ≤ 128) (hP : c * F = P) (hQ : (c + 1) * F = Q) (hP0 : 0 ≤ P) (hP1 : P ≤ 20000) (hQ0 : 0 ≤ Q) (hQ1 : Q ≤ 20000) (hq : (P + C - 1) / C = q) (hr : (Q + C - 1) / C = r) :
    Calls Try.prog 33 #[.int .i64 F, .int .i64 C, .int .i64 c] w fun e w' => e = .returned (.tuple #[.int .i64 q, .int .i64 r]) ∧ w = w' := by
  have K1 := Lib.hid (fun w => first_any F C c P q w hC hC' hP hP0 hP1 hq)
  have K2 := Lib.hid (fun w => first_any F C (c + 1) Q r w hC hC' hQ hQ0 hQ1 hr)
  clear hP hQ hq hr
  go_enter Try.func33, Try.ntmps33
  go_wp2_with fail
  refine (K1.out _).mono ?_
  rintro e w' ⟨rfl, rfl⟩
  go_wp2_with fail
  refine (K2.out _).mono ?_
  rintro e w' ⟨rfl, rfl⟩
  go_wp2_with fail
  go_ret2
  exact ⟨rfl, rfl⟩
set_option maxHeartbeats 400000 in
theorem home_any (F C c P Q q r m : Int) (w : World) (hF : 1 ≤ F) (hF' : F ≤ 128) (hC : 1 ≤ C) (hC' : C ≤ 128) (hc : 0 ≤ c) (hc' : c ≤ 128) (hP : c * F = P) (hQ : (c + 1) * F = Q) (hP0 : 0 ≤ P) (hP1 : P ≤ 20000) (hQ0 : 0 ≤ Q) (hQ1 : Q ≤ 20000) (hq : (P + C - 1) / C = q) (hr : (Q + C - 1) / C = r) (hm : min q (F - 1) = m) :
    Calls Try.prog 34 #[.int .i64 F, .int .i64 C, .int .i64 c] w fun e w' => e = .returned (.int .i64 m) ∧ w = w' := by
  have K1 := Lib.hid (fun w => span_any F C c P Q q r w hC hC' hc hc' hP hQ hP0 hP1 hQ0 hQ1 hq hr)
  clear hP hQ hq hr
  go_enter Try.func34, Try.ntmps34
  go_wp2_with fail
  refine (K1.out _).mono ?_
  rintro e w' ⟨rfl, rfl⟩
  go_wp2_with fail
  all_goals
    go_ret
    exact ⟨sret (by omega), rfl⟩
set_option maxHeartbeats 400000 in
theorem secalive (w : World) : Calls Try.prog 36 #[] w fun e w' => e = .returned (.bool true) ∧ w = w' := by
  have K1 := Lib.hid (fun w => span_any 10 3 1 10 20 4 7 w (by decide) (by decide) (by decide) (by decide) (by decide) (by decide) (by decide) (by decide) (by decide) (by decide) (by decide) (by decide))
  have K2 := Lib.hid (fun w => scar_any 10 3 6 18 1 w (by decide) (by decide) (by decide) (by decide) (by decide) (by decide))
  go_enter Try.func36, Try.ntmps36
  go_wp2_with (first
    | (go_at_call 33; refine (K1.out _).mono ?_; rintro e w' ⟨rfl, rfl⟩)
    | (go_at_call 35; refine (K2.out _).mono ?_; rintro e w' ⟨rfl, rfl⟩))
  go_ret
  exact ⟨rfl, rfl⟩
end Go.Proofs.Ytcofafiacpecnaa
