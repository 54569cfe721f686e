/- The walk of PlaceFloors: it answers true for every input, and leaves all old blocks as they were. No condition. -/
import Derived.Test.YtkepplkfjcoemacRows
import Derived.Test.YtkepplkfjcoemacRowKit
import Derived.Test.YtkepplkfjcoemacCmp
import Derived.Test.YtkepplkfjcoemacPlaceA
import Derived.WalkKit
import Derived.ProofKit
import Derived.OpenShut
import Derived.Deep.QuietTactic
import Derived.BigQuiet
import Derived.Lib.SmallJoins
import Derived.Lib.Hide
import Derived.WalkSpells
import Derived.WalkLawsBesides
import Derived.IntWalk
namespace Go.Proofs.Ytkepplkfjcoemac.placeFloors
open Go.ChangeShapes Go.WideShapes Go.ChangeAt Go.RowKit Go.Joins
set_option linter.unusedSimpArgs false
set_option linter.unusedVariables false

set_option maxHeartbeats 1000000 in
theorem walk_out (p g fl : Int) (w : World) (h : ¬ (0 ≤ p ∧ p ≤ 1048576) ∨ ¬ (0 ≤ g ∧ g ≤ 1048576) ∨ ¬ (0 ≤ fl ∧ fl ≤ 1048576) ∨ g < 1) :
    Calls Try.prog 7 #[.int .i64 p, .int .i64 g, .int .i64 fl] w fun e w' => e = .returned (.bool true) ∧ ∃ k, w' = w.drewN k := by
  have HF := Lib.hid (fun n w => few_any n w)
  by_cases h1 : 0 ≤ p ∧ p ≤ 1048576
  · have d1 := decide_eq_true h1
    by_cases h2 : 0 ≤ g ∧ g ≤ 1048576
    · have d2 := decide_eq_true h2
      by_cases h3 : 0 ≤ fl ∧ fl ≤ 1048576
      · have d3 := decide_eq_true h3
        have h4 : g < 1 := by omega
        clear h h1 h2 h3
        go_enter Try.func7, Try.ntmps7
        go_wp2_with (go_at_call 22; refine (HF.out _ _).mono ?_; rintro e w' ⟨rfl, rfl⟩; first | rw [d1] | rw [d2] | rw [d3])
        go_ret
        exact ⟨rfl, 0, rfl⟩
      · have d3 := decide_eq_false h3
        clear h h1 h2 h3
        go_enter Try.func7, Try.ntmps7
        go_wp2_with (go_at_call 22; refine (HF.out _ _).mono ?_; rintro e w' ⟨rfl, rfl⟩; first | rw [d1] | rw [d2] | rw [d3])
        go_ret
        exact ⟨rfl, 0, rfl⟩
    · have d2 := decide_eq_false h2
      clear h h1 h2
      go_enter Try.func7, Try.ntmps7
      go_wp2_with (go_at_call 22; refine (HF.out _ _).mono ?_; rintro e w' ⟨rfl, rfl⟩; first | rw [d1] | rw [d2])
      go_ret
      exact ⟨rfl, 0, rfl⟩
  · have d1 := decide_eq_false h1
    clear h h1
    go_enter Try.func7, Try.ntmps7
    go_wp2_with (go_at_call 22; refine (HF.out _ _).mono ?_; rintro e w' ⟨rfl, rfl⟩; rw [d1])
    go_ret
    exact ⟨rfl, 0, rfl⟩


set_option maxHeartbeats 1000000 in
theorem walk_ea (p g fl q t : Int) (w : World) (hp : 0 ≤ p) (hp' : p ≤ 1048576) (hg : 1 ≤ g) (hg' : g ≤ 1048576) (hf : 0 ≤ fl) (hf' : fl ≤ 1048576) (hm : q * g = p) (ht : fl * g = t) (ht' : (fl - 1) * g = t - g) (ht0 : 0 ≤ t) (ht1 : t ≤ 1099511627776) (hx : fl < 2) :
    Calls Try.prog 7 #[.int .i64 p, .int .i64 g, .int .i64 fl] w fun e w' => e = .returned (.bool true) ∧ ∃ k, w' = w.drewN k := by
  have HF := Lib.hid (fun n w => few_any n w)
  have d1 : decide (0 ≤ p ∧ p ≤ 1048576) = true := decide_eq_true ⟨hp, hp'⟩
  have d2 : decide (0 ≤ g ∧ g ≤ 1048576) = true := decide_eq_true ⟨by omega, hg'⟩
  have d3 : decide (0 ≤ fl ∧ fl ≤ 1048576) = true := decide_eq_true ⟨hf, hf'⟩
  have HL := Lib.hid (fun w => floor_any p g q (p - p) w hg hp (by omega) (by omega) (by omega) (by rw [hm]; omega))
  have HA := Lib.hid (fun w => at_any q g p w hm (by omega) (by omega))
  have HT := Lib.hid (fun w => top_any fl g (t - g) w ht' (by omega) (by omega) (by omega) (by omega))
  have HR := Lib.hid (fun w => pright_any fl g w)
  have hR : decide (2 ≤ fl ∧ fl ≤ 128 ∧ 1 ≤ g ∧ g ≤ 16) = false := decide_eq_false (by omega)
  have w1 : IntKind.i64.wrap (q * g) = p := by rw [hm]; exact IntWalk.i64_in _ (by omega)
  have w2 : IntKind.i64.wrap (fl * g) = t := by rw [ht]; exact IntWalk.i64_in _ (by omega)
  have hat : decide (p - p = 0) = true := decide_eq_true (by omega)
  
  have E := Lib.hid hat
  have ER := Lib.hid hR
  clear hm ht ht' hat hR
  
  go_enter Try.func7, Try.ntmps7
  go_wp2_with (first
    | (go_at_call 22; refine (HF.out _ _).mono ?_; rintro e w' ⟨rfl, rfl⟩; first | rw [d1] | rw [d2] | rw [d3])
    | (go_at_call 23; refine (HL.out _).mono ?_; rintro e w' ⟨rfl, k8, rfl⟩; rw [E.out])
    | (go_at_call 24; refine (HA.out _).mono ?_; rintro e w' ⟨rfl, rfl⟩)
    | (go_at_call 25; refine (HR.out _).mono ?_; rintro e w' ⟨rfl, rfl⟩; rw [ER.out])
    | (go_at_call 26; refine (HT.out _).mono ?_; rintro e w' ⟨rfl, rfl⟩)
    | (go_at_call 27; refine (palive_any _).mono ?_; rintro e w' ⟨rfl, k9, rfl⟩))
  go_ret
  exact ⟨by first | rfl | (simp; omega), _, rfl⟩

set_option maxHeartbeats 1000000 in
theorem walk_eb (p g fl q t : Int) (w : World) (hp : 0 ≤ p) (hp' : p ≤ 1048576) (hg : 1 ≤ g) (hg' : g ≤ 1048576) (hf : 0 ≤ fl) (hf' : fl ≤ 1048576) (hm : q * g = p) (ht : fl * g = t) (ht' : (fl - 1) * g = t - g) (ht0 : 0 ≤ t) (ht1 : t ≤ 1099511627776) (hx : 128 < fl) :
    Calls Try.prog 7 #[.int .i64 p, .int .i64 g, .int .i64 fl] w fun e w' => e = .returned (.bool true) ∧ ∃ k, w' = w.drewN k := by
  have HF := Lib.hid (fun n w => few_any n w)
  have d1 : decide (0 ≤ p ∧ p ≤ 1048576) = true := decide_eq_true ⟨hp, hp'⟩
  have d2 : decide (0 ≤ g ∧ g ≤ 1048576) = true := decide_eq_true ⟨by omega, hg'⟩
  have d3 : decide (0 ≤ fl ∧ fl ≤ 1048576) = true := decide_eq_true ⟨hf, hf'⟩
  have HL := Lib.hid (fun w => floor_any p g q (p - p) w hg hp (by omega) (by omega) (by omega) (by rw [hm]; omega))
  have HA := Lib.hid (fun w => at_any q g p w hm (by omega) (by omega))
  have HT := Lib.hid (fun w => top_any fl g (t - g) w ht' (by omega) (by omega) (by omega) (by omega))
  have HR := Lib.hid (fun w => pright_any fl g w)
  have hR : decide (2 ≤ fl ∧ fl ≤ 128 ∧ 1 ≤ g ∧ g ≤ 16) = false := decide_eq_false (by omega)
  have w1 : IntKind.i64.wrap (q * g) = p := by rw [hm]; exact IntWalk.i64_in _ (by omega)
  have w2 : IntKind.i64.wrap (fl * g) = t := by rw [ht]; exact IntWalk.i64_in _ (by omega)
  have hat : decide (p - p = 0) = true := decide_eq_true (by omega)
  
  have E := Lib.hid hat
  have ER := Lib.hid hR
  clear hm ht ht' hat hR
  
  go_enter Try.func7, Try.ntmps7
  go_wp2_with (first
    | (go_at_call 22; refine (HF.out _ _).mono ?_; rintro e w' ⟨rfl, rfl⟩; first | rw [d1] | rw [d2] | rw [d3])
    | (go_at_call 23; refine (HL.out _).mono ?_; rintro e w' ⟨rfl, k8, rfl⟩; rw [E.out])
    | (go_at_call 24; refine (HA.out _).mono ?_; rintro e w' ⟨rfl, rfl⟩)
    | (go_at_call 25; refine (HR.out _).mono ?_; rintro e w' ⟨rfl, rfl⟩; rw [ER.out])
    | (go_at_call 26; refine (HT.out _).mono ?_; rintro e w' ⟨rfl, rfl⟩)
    | (go_at_call 27; refine (palive_any _).mono ?_; rintro e w' ⟨rfl, k9, rfl⟩))
  go_ret
  exact ⟨by first | rfl | (simp; omega), _, rfl⟩

set_option maxHeartbeats 1000000 in
theorem walk_ec (p g fl q t : Int) (w : World) (hp : 0 ≤ p) (hp' : p ≤ 1048576) (hg : 1 ≤ g) (hg' : g ≤ 1048576) (hf : 0 ≤ fl) (hf' : fl ≤ 1048576) (hm : q * g = p) (ht : fl * g = t) (ht' : (fl - 1) * g = t - g) (ht0 : 0 ≤ t) (ht1 : t ≤ 1099511627776) (hx : 2 ≤ fl ∧ fl ≤ 128 ∧ 16 < g) :
    Calls Try.prog 7 #[.int .i64 p, .int .i64 g, .int .i64 fl] w fun e w' => e = .returned (.bool true) ∧ ∃ k, w' = w.drewN k := by
  have HF := Lib.hid (fun n w => few_any n w)
  have d1 : decide (0 ≤ p ∧ p ≤ 1048576) = true := decide_eq_true ⟨hp, hp'⟩
  have d2 : decide (0 ≤ g ∧ g ≤ 1048576) = true := decide_eq_true ⟨by omega, hg'⟩
  have d3 : decide (0 ≤ fl ∧ fl ≤ 1048576) = true := decide_eq_true ⟨hf, hf'⟩
  have HL := Lib.hid (fun w => floor_any p g q (p - p) w hg hp (by omega) (by omega) (by omega) (by rw [hm]; omega))
  have HA := Lib.hid (fun w => at_any q g p w hm (by omega) (by omega))
  have HT := Lib.hid (fun w => top_any fl g (t - g) w ht' (by omega) (by omega) (by omega) (by omega))
  have HR := Lib.hid (fun w => pright_any fl g w)
  have hR : decide (2 ≤ fl ∧ fl ≤ 128 ∧ 1 ≤ g ∧ g ≤ 16) = false := decide_eq_false (by omega)
  have w1 : IntKind.i64.wrap (q * g) = p := by rw [hm]; exact IntWalk.i64_in _ (by omega)
  have w2 : IntKind.i64.wrap (fl * g) = t := by rw [ht]; exact IntWalk.i64_in _ (by omega)
  have hat : decide (p - p = 0) = true := decide_eq_true (by omega)
  
  have E := Lib.hid hat
  have ER := Lib.hid hR
  clear hm ht ht' hat hR
  obtain ⟨x1, x2, x3⟩ := hx
  go_enter Try.func7, Try.ntmps7
  go_wp2_with (first
    | (go_at_call 22; refine (HF.out _ _).mono ?_; rintro e w' ⟨rfl, rfl⟩; first | rw [d1] | rw [d2] | rw [d3])
    | (go_at_call 23; refine (HL.out _).mono ?_; rintro e w' ⟨rfl, k8, rfl⟩; rw [E.out])
    | (go_at_call 24; refine (HA.out _).mono ?_; rintro e w' ⟨rfl, rfl⟩)
    | (go_at_call 25; refine (HR.out _).mono ?_; rintro e w' ⟨rfl, rfl⟩; rw [ER.out])
    | (go_at_call 26; refine (HT.out _).mono ?_; rintro e w' ⟨rfl, rfl⟩)
    | (go_at_call 27; refine (palive_any _).mono ?_; rintro e w' ⟨rfl, k9, rfl⟩))
  go_ret
  exact ⟨by first | rfl | (simp; omega), _, rfl⟩

set_option maxHeartbeats 1000000 in
theorem walk_ed (p g fl q t : Int) (w : World) (hp : 0 ≤ p) (hp' : p ≤ 1048576) (hg : 1 ≤ g) (hg' : g ≤ 1048576) (hf : 0 ≤ fl) (hf' : fl ≤ 1048576) (hm : q * g = p) (ht : fl * g = t) (ht' : (fl - 1) * g = t - g) (ht0 : 0 ≤ t) (ht1 : t ≤ 1099511627776) (hx : 2 ≤ fl ∧ fl ≤ 128 ∧ g ≤ 16) :
    Calls Try.prog 7 #[.int .i64 p, .int .i64 g, .int .i64 fl] w fun e w' => e = .returned (.bool true) ∧ ∃ k, w' = w.drewN k := by
  have HF := Lib.hid (fun n w => few_any n w)
  have d1 : decide (0 ≤ p ∧ p ≤ 1048576) = true := decide_eq_true ⟨hp, hp'⟩
  have d2 : decide (0 ≤ g ∧ g ≤ 1048576) = true := decide_eq_true ⟨by omega, hg'⟩
  have d3 : decide (0 ≤ fl ∧ fl ≤ 1048576) = true := decide_eq_true ⟨hf, hf'⟩
  have HL := Lib.hid (fun w => floor_any p g q (p - p) w hg hp (by omega) (by omega) (by omega) (by rw [hm]; omega))
  have HA := Lib.hid (fun w => at_any q g p w hm (by omega) (by omega))
  have HT := Lib.hid (fun w => top_any fl g (t - g) w ht' (by omega) (by omega) (by omega) (by omega))
  have HR := Lib.hid (fun w => pright_any fl g w)
  have hR : decide (2 ≤ fl ∧ fl ≤ 128 ∧ 1 ≤ g ∧ g ≤ 16) = true := decide_eq_true (by omega)
  have w1 : IntKind.i64.wrap (q * g) = p := by rw [hm]; exact IntWalk.i64_in _ (by omega)
  have w2 : IntKind.i64.wrap (fl * g) = t := by rw [ht]; exact IntWalk.i64_in _ (by omega)
  have hat : decide (p - p = 0) = true := decide_eq_true (by omega)
  
  have E := Lib.hid hat
  have ER := Lib.hid hR
  clear hm ht ht' hat hR
  obtain ⟨x1, x2, x3⟩ := hx
  go_enter Try.func7, Try.ntmps7
  go_wp2_with (first
    | (go_at_call 22; refine (HF.out _ _).mono ?_; rintro e w' ⟨rfl, rfl⟩; first | rw [d1] | rw [d2] | rw [d3])
    | (go_at_call 23; refine (HL.out _).mono ?_; rintro e w' ⟨rfl, k8, rfl⟩; rw [E.out])
    | (go_at_call 24; refine (HA.out _).mono ?_; rintro e w' ⟨rfl, rfl⟩)
    | (go_at_call 25; refine (HR.out _).mono ?_; rintro e w' ⟨rfl, rfl⟩; rw [ER.out])
    | (go_at_call 26; refine (HT.out _).mono ?_; rintro e w' ⟨rfl, rfl⟩)
    | (go_at_call 27; refine (palive_any _).mono ?_; rintro e w' ⟨rfl, k9, rfl⟩))
  go_ret
  exact ⟨by first | rfl | (simp; omega), _, rfl⟩

set_option maxHeartbeats 1000000 in
theorem walk_na (p g fl q m t : Int) (w : World) (hp : 0 ≤ p) (hp' : p ≤ 1048576) (hg : 1 ≤ g) (hg' : g ≤ 1048576) (hf : 0 ≤ fl) (hf' : fl ≤ 1048576) (hr : m < p) (hr2 : p - m < g) (hm0 : -2 ≤ m) (hm : q * g = m) (ht : fl * g = t) (ht' : (fl - 1) * g = t - g) (ht0 : 0 ≤ t) (ht1 : t ≤ 1099511627776) (hx : fl < 2) :
    Calls Try.prog 7 #[.int .i64 p, .int .i64 g, .int .i64 fl] w fun e w' => e = .returned (.bool true) ∧ ∃ k, w' = w.drewN k := by
  have HF := Lib.hid (fun n w => few_any n w)
  have d1 : decide (0 ≤ p ∧ p ≤ 1048576) = true := decide_eq_true ⟨hp, hp'⟩
  have d2 : decide (0 ≤ g ∧ g ≤ 1048576) = true := decide_eq_true ⟨by omega, hg'⟩
  have d3 : decide (0 ≤ fl ∧ fl ≤ 1048576) = true := decide_eq_true ⟨hf, hf'⟩
  have HL := Lib.hid (fun w => floor_any p g q (p - m) w hg hp (by omega) (by omega) (by omega) (by rw [hm]; omega))
  have HA := Lib.hid (fun w => at_any q g m w hm (by omega) (by omega))
  have HT := Lib.hid (fun w => top_any fl g (t - g) w ht' (by omega) (by omega) (by omega) (by omega))
  have HR := Lib.hid (fun w => pright_any fl g w)
  have hR : decide (2 ≤ fl ∧ fl ≤ 128 ∧ 1 ≤ g ∧ g ≤ 16) = false := decide_eq_false (by omega)
  have w1 : IntKind.i64.wrap (q * g) = m := by rw [hm]; exact IntWalk.i64_in _ (by omega)
  have w2 : IntKind.i64.wrap (fl * g) = t := by rw [ht]; exact IntWalk.i64_in _ (by omega)
  have hat : decide (p - m = 0) = false := decide_eq_false (by omega)
  have hmp : (m == p) = false := by rw [beq_eq_false_iff_ne]; omega
  have E := Lib.hid hat
  have ER := Lib.hid hR
  clear hm ht ht' hat hR
  
  go_enter Try.func7, Try.ntmps7
  go_wp2_with (first
    | (go_at_call 22; refine (HF.out _ _).mono ?_; rintro e w' ⟨rfl, rfl⟩; first | rw [d1] | rw [d2] | rw [d3])
    | (go_at_call 23; refine (HL.out _).mono ?_; rintro e w' ⟨rfl, k8, rfl⟩; rw [E.out])
    | (go_at_call 24; refine (HA.out _).mono ?_; rintro e w' ⟨rfl, rfl⟩)
    | (go_at_call 25; refine (HR.out _).mono ?_; rintro e w' ⟨rfl, rfl⟩; rw [ER.out])
    | (go_at_call 26; refine (HT.out _).mono ?_; rintro e w' ⟨rfl, rfl⟩)
    | (go_at_call 27; refine (palive_any _).mono ?_; rintro e w' ⟨rfl, k9, rfl⟩))
  go_ret
  exact ⟨by first | rfl | (simp; omega), _, rfl⟩

set_option maxHeartbeats 1000000 in
theorem walk_nb (p g fl q m t : Int) (w : World) (hp : 0 ≤ p) (hp' : p ≤ 1048576) (hg : 1 ≤ g) (hg' : g ≤ 1048576) (hf : 0 ≤ fl) (hf' : fl ≤ 1048576) (hr : m < p) (hr2 : p - m < g) (hm0 : -2 ≤ m) (hm : q * g = m) (ht : fl * g = t) (ht' : (fl - 1) * g = t - g) (ht0 : 0 ≤ t) (ht1 : t ≤ 1099511627776) (hx : 128 < fl) :
    Calls Try.prog 7 #[.int .i64 p, .int .i64 g, .int .i64 fl] w fun e w' => e = .returned (.bool true) ∧ ∃ k, w' = w.drewN k := by
  have HF := Lib.hid (fun n w => few_any n w)
  have d1 : decide (0 ≤ p ∧ p ≤ 1048576) = true := decide_eq_true ⟨hp, hp'⟩
  have d2 : decide (0 ≤ g ∧ g ≤ 1048576) = true := decide_eq_true ⟨by omega, hg'⟩
  have d3 : decide (0 ≤ fl ∧ fl ≤ 1048576) = true := decide_eq_true ⟨hf, hf'⟩
  have HL := Lib.hid (fun w => floor_any p g q (p - m) w hg hp (by omega) (by omega) (by omega) (by rw [hm]; omega))
  have HA := Lib.hid (fun w => at_any q g m w hm (by omega) (by omega))
  have HT := Lib.hid (fun w => top_any fl g (t - g) w ht' (by omega) (by omega) (by omega) (by omega))
  have HR := Lib.hid (fun w => pright_any fl g w)
  have hR : decide (2 ≤ fl ∧ fl ≤ 128 ∧ 1 ≤ g ∧ g ≤ 16) = false := decide_eq_false (by omega)
  have w1 : IntKind.i64.wrap (q * g) = m := by rw [hm]; exact IntWalk.i64_in _ (by omega)
  have w2 : IntKind.i64.wrap (fl * g) = t := by rw [ht]; exact IntWalk.i64_in _ (by omega)
  have hat : decide (p - m = 0) = false := decide_eq_false (by omega)
  have hmp : (m == p) = false := by rw [beq_eq_false_iff_ne]; omega
  have E := Lib.hid hat
  have ER := Lib.hid hR
  clear hm ht ht' hat hR
  
  go_enter Try.func7, Try.ntmps7
  go_wp2_with (first
    | (go_at_call 22; refine (HF.out _ _).mono ?_; rintro e w' ⟨rfl, rfl⟩; first | rw [d1] | rw [d2] | rw [d3])
    | (go_at_call 23; refine (HL.out _).mono ?_; rintro e w' ⟨rfl, k8, rfl⟩; rw [E.out])
    | (go_at_call 24; refine (HA.out _).mono ?_; rintro e w' ⟨rfl, rfl⟩)
    | (go_at_call 25; refine (HR.out _).mono ?_; rintro e w' ⟨rfl, rfl⟩; rw [ER.out])
    | (go_at_call 26; refine (HT.out _).mono ?_; rintro e w' ⟨rfl, rfl⟩)
    | (go_at_call 27; refine (palive_any _).mono ?_; rintro e w' ⟨rfl, k9, rfl⟩))
  go_ret
  exact ⟨by first | rfl | (simp; omega), _, rfl⟩

set_option maxHeartbeats 1000000 in
theorem walk_nc (p g fl q m t : Int) (w : World) (hp : 0 ≤ p) (hp' : p ≤ 1048576) (hg : 1 ≤ g) (hg' : g ≤ 1048576) (hf : 0 ≤ fl) (hf' : fl ≤ 1048576) (hr : m < p) (hr2 : p - m < g) (hm0 : -2 ≤ m) (hm : q * g = m) (ht : fl * g = t) (ht' : (fl - 1) * g = t - g) (ht0 : 0 ≤ t) (ht1 : t ≤ 1099511627776) (hx : 2 ≤ fl ∧ fl ≤ 128 ∧ 16 < g) :
    Calls Try.prog 7 #[.int .i64 p, .int .i64 g, .int .i64 fl] w fun e w' => e = .returned (.bool true) ∧ ∃ k, w' = w.drewN k := by
  have HF := Lib.hid (fun n w => few_any n w)
  have d1 : decide (0 ≤ p ∧ p ≤ 1048576) = true := decide_eq_true ⟨hp, hp'⟩
  have d2 : decide (0 ≤ g ∧ g ≤ 1048576) = true := decide_eq_true ⟨by omega, hg'⟩
  have d3 : decide (0 ≤ fl ∧ fl ≤ 1048576) = true := decide_eq_true ⟨hf, hf'⟩
  have HL := Lib.hid (fun w => floor_any p g q (p - m) w hg hp (by omega) (by omega) (by omega) (by rw [hm]; omega))
  have HA := Lib.hid (fun w => at_any q g m w hm (by omega) (by omega))
  have HT := Lib.hid (fun w => top_any fl g (t - g) w ht' (by omega) (by omega) (by omega) (by omega))
  have HR := Lib.hid (fun w => pright_any fl g w)
  have hR : decide (2 ≤ fl ∧ fl ≤ 128 ∧ 1 ≤ g ∧ g ≤ 16) = false := decide_eq_false (by omega)
  have w1 : IntKind.i64.wrap (q * g) = m := by rw [hm]; exact IntWalk.i64_in _ (by omega)
  have w2 : IntKind.i64.wrap (fl * g) = t := by rw [ht]; exact IntWalk.i64_in _ (by omega)
  have hat : decide (p - m = 0) = false := decide_eq_false (by omega)
  have hmp : (m == p) = false := by rw [beq_eq_false_iff_ne]; omega
  have E := Lib.hid hat
  have ER := Lib.hid hR
  clear hm ht ht' hat hR
  obtain ⟨x1, x2, x3⟩ := hx
  go_enter Try.func7, Try.ntmps7
  go_wp2_with (first
    | (go_at_call 22; refine (HF.out _ _).mono ?_; rintro e w' ⟨rfl, rfl⟩; first | rw [d1] | rw [d2] | rw [d3])
    | (go_at_call 23; refine (HL.out _).mono ?_; rintro e w' ⟨rfl, k8, rfl⟩; rw [E.out])
    | (go_at_call 24; refine (HA.out _).mono ?_; rintro e w' ⟨rfl, rfl⟩)
    | (go_at_call 25; refine (HR.out _).mono ?_; rintro e w' ⟨rfl, rfl⟩; rw [ER.out])
    | (go_at_call 26; refine (HT.out _).mono ?_; rintro e w' ⟨rfl, rfl⟩)
    | (go_at_call 27; refine (palive_any _).mono ?_; rintro e w' ⟨rfl, k9, rfl⟩))
  go_ret
  exact ⟨by first | rfl | (simp; omega), _, rfl⟩

set_option maxHeartbeats 1000000 in
theorem walk_nd (p g fl q m t : Int) (w : World) (hp : 0 ≤ p) (hp' : p ≤ 1048576) (hg : 1 ≤ g) (hg' : g ≤ 1048576) (hf : 0 ≤ fl) (hf' : fl ≤ 1048576) (hr : m < p) (hr2 : p - m < g) (hm0 : -2 ≤ m) (hm : q * g = m) (ht : fl * g = t) (ht' : (fl - 1) * g = t - g) (ht0 : 0 ≤ t) (ht1 : t ≤ 1099511627776) (hx : 2 ≤ fl ∧ fl ≤ 128 ∧ g ≤ 16) :
    Calls Try.prog 7 #[.int .i64 p, .int .i64 g, .int .i64 fl] w fun e w' => e = .returned (.bool true) ∧ ∃ k, w' = w.drewN k := by
  have HF := Lib.hid (fun n w => few_any n w)
  have d1 : decide (0 ≤ p ∧ p ≤ 1048576) = true := decide_eq_true ⟨hp, hp'⟩
  have d2 : decide (0 ≤ g ∧ g ≤ 1048576) = true := decide_eq_true ⟨by omega, hg'⟩
  have d3 : decide (0 ≤ fl ∧ fl ≤ 1048576) = true := decide_eq_true ⟨hf, hf'⟩
  have HL := Lib.hid (fun w => floor_any p g q (p - m) w hg hp (by omega) (by omega) (by omega) (by rw [hm]; omega))
  have HA := Lib.hid (fun w => at_any q g m w hm (by omega) (by omega))
  have HT := Lib.hid (fun w => top_any fl g (t - g) w ht' (by omega) (by omega) (by omega) (by omega))
  have HR := Lib.hid (fun w => pright_any fl g w)
  have hR : decide (2 ≤ fl ∧ fl ≤ 128 ∧ 1 ≤ g ∧ g ≤ 16) = true := decide_eq_true (by omega)
  have w1 : IntKind.i64.wrap (q * g) = m := by rw [hm]; exact IntWalk.i64_in _ (by omega)
  have w2 : IntKind.i64.wrap (fl * g) = t := by rw [ht]; exact IntWalk.i64_in _ (by omega)
  have hat : decide (p - m = 0) = false := decide_eq_false (by omega)
  have hmp : (m == p) = false := by rw [beq_eq_false_iff_ne]; omega
  have E := Lib.hid hat
  have ER := Lib.hid hR
  clear hm ht ht' hat hR
  obtain ⟨x1, x2, x3⟩ := hx
  go_enter Try.func7, Try.ntmps7
  go_wp2_with (first
    | (go_at_call 22; refine (HF.out _ _).mono ?_; rintro e w' ⟨rfl, rfl⟩; first | rw [d1] | rw [d2] | rw [d3])
    | (go_at_call 23; refine (HL.out _).mono ?_; rintro e w' ⟨rfl, k8, rfl⟩; rw [E.out])
    | (go_at_call 24; refine (HA.out _).mono ?_; rintro e w' ⟨rfl, rfl⟩)
    | (go_at_call 25; refine (HR.out _).mono ?_; rintro e w' ⟨rfl, rfl⟩; rw [ER.out])
    | (go_at_call 26; refine (HT.out _).mono ?_; rintro e w' ⟨rfl, rfl⟩)
    | (go_at_call 27; refine (palive_any _).mono ?_; rintro e w' ⟨rfl, k9, rfl⟩))
  go_ret
  exact ⟨by first | rfl | (simp; omega), _, rfl⟩

theorem walk {p g fl : Int} (w0 : (Lit.int .i64 p).wf = true) (w1 : (Lit.int .i64 g).wf = true) (w2 : (Lit.int .i64 fl).wf = true) (w : World) :
    Calls Try.prog 7 #[.int .i64 p, .int .i64 g, .int .i64 fl] w fun e w' => e = .returned (.bool true) ∧ Below w.heap.size w w' := by
  have fin : Calls Try.prog 7 #[.int .i64 p, .int .i64 g, .int .i64 fl] w fun e w' => e = .returned (.bool true) ∧ ∃ k, w' = w.drewN k := by
    by_cases h : (0 ≤ p ∧ p ≤ 1048576) ∧ (1 ≤ g ∧ g ≤ 1048576) ∧ (0 ≤ fl ∧ fl ≤ 1048576)
    · obtain ⟨⟨p0, p1⟩, ⟨g0, g1⟩, f0, f1⟩ := h
      have hd := Int.emod_add_mul_ediv p g
      have hr := Int.emod_nonneg p (show g ≠ 0 by omega)
      have hr' := Int.emod_lt_of_pos p (show 0 < g by omega)
      have hq : 0 ≤ p / g := Int.ediv_nonneg p0 (by omega)
      rw [Int.mul_comm] at hd
      obtain ⟨m, hm⟩ : ∃ m, p / g * g = m := ⟨_, rfl⟩
      have hm0 : 0 ≤ m := by rw [← hm]; exact Int.mul_nonneg hq (by omega)
      rw [hm] at hd
      obtain ⟨t, ht⟩ : ∃ t, fl * g = t := ⟨_, rfl⟩
      have ht' : (fl - 1) * g = t - g := by rw [Int.sub_mul, ht]; omega
      have ht0 : 0 ≤ t := by rw [← ht]; exact Int.mul_nonneg f0 (by omega)
      have ht1 : t ≤ 1099511627776 := by rw [← ht]; exact Int.le_trans (Int.mul_le_mul f1 g1 (by omega) (by omega)) (by omega)
      by_cases e : m = p
      · subst e
        rcases (show fl < 2 ∨ 128 < fl ∨ (2 ≤ fl ∧ fl ≤ 128 ∧ 16 < g) ∨ (2 ≤ fl ∧ fl ≤ 128 ∧ g ≤ 16) by omega) with x | x | x | x
        · exact walk_ea m g fl _ t w p0 p1 g0 g1 f0 f1 hm ht ht' ht0 ht1 x
        · exact walk_eb m g fl _ t w p0 p1 g0 g1 f0 f1 hm ht ht' ht0 ht1 x
        · exact walk_ec m g fl _ t w p0 p1 g0 g1 f0 f1 hm ht ht' ht0 ht1 x
        · exact walk_ed m g fl _ t w p0 p1 g0 g1 f0 f1 hm ht ht' ht0 ht1 x
      · rcases (show fl < 2 ∨ 128 < fl ∨ (2 ≤ fl ∧ fl ≤ 128 ∧ 16 < g) ∨ (2 ≤ fl ∧ fl ≤ 128 ∧ g ≤ 16) by omega) with x | x | x | x
        · exact walk_na p g fl _ m t w p0 p1 g0 g1 f0 f1 (by omega) (by omega) (by omega) hm ht ht' ht0 ht1 x
        · exact walk_nb p g fl _ m t w p0 p1 g0 g1 f0 f1 (by omega) (by omega) (by omega) hm ht ht' ht0 ht1 x
        · exact walk_nc p g fl _ m t w p0 p1 g0 g1 f0 f1 (by omega) (by omega) (by omega) hm ht ht' ht0 ht1 x
        · exact walk_nd p g fl _ m t w p0 p1 g0 g1 f0 f1 (by omega) (by omega) (by omega) hm ht ht' ht0 ht1 x
    · exact walk_out p g fl w (by omega)
  exact fin.mono fun e w' ⟨h1, k, h2⟩ => ⟨h1, h2 ▸ below_drewN (Below.refl _ _) k⟩

end Go.Proofs.Ytkepplkfjcoemac.placeFloors
