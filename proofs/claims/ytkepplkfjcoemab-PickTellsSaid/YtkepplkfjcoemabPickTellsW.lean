/- The walk of PickTells: it answers true for every input, and leaves all old blocks as they were. No condition. -/
import Derived.Test.YtkepplkfjcoemabRows
import Derived.Test.YtkepplkfjcoemabRowKit
import Derived.Test.YtkepplkfjcoemabSlicesEq
import Derived.Test.YtkepplkfjcoemabPickMath
import Derived.Test.YtkepplkfjcoemabPickA
import Derived.Test.YtkepplkfjcoemabPickB
import Derived.WalkKit
import Derived.ProofKit
import Derived.OpenShut
import Derived.Deep.QuietTactic
import Derived.BigQuiet
import Derived.Lib.SmallJoins
import Derived.Lib.Hide
import Derived.WalkSpells
import Derived.WalkLawsBesides
namespace Go.Proofs.Ytkepplkfjcoemab.pickTells
open Go.ChangeShapes Go.WideShapes Go.ChangeAt Go.RowKit Go.Joins
set_option linter.unusedSimpArgs false
set_option linter.unusedVariables false

set_option maxHeartbeats 1000000 in
theorem walk0 (A : Option Addr) (c : Nat) (zs : List Int) (v x : Int) (w : World) (hl : zs.length ≤ 200)
    (hT : Calls Try.prog 38 #[.slice A zs.length c] w fun e w' => e = .returned (.tuple #[.int .i64 (totV zs), .int .i64 (totE zs)]) ∧ w = w')
    (hR : Calls Try.prog 39 #[.slice A zs.length c] w fun e w' => e = .returned (.tuple #[.int .i64 (totV zs), .int .i64 (totE zs)]) ∧ w = w')
    (hO : Calls Try.prog 40 #[.int .u32 v, .slice A zs.length c] w fun e w' => e = .returned (.tuple #[.int .i64 x, .int .i64 (totE zs)]) ∧ w = w')
    (hP : Calls Try.prog 41 #[.int .u32 v, .slice A zs.length c] w fun e w' => e = .returned (.tuple #[.int .i64 x, .int .i64 (totE zs)]) ∧ w = w') :
    Calls Try.prog 10 #[.int .u32 v, .slice A zs.length c] w fun e w' => e = .returned (.bool true) ∧ Below w.heap.size w w' := by
  have HT := Lib.hid hT
  have HR := Lib.hid hR
  have HO := Lib.hid hO
  have HP := Lib.hid hP
  clear hT hR hO hP
  go_enter Try.func10, Try.ntmps10
  go_wp2_with (first
    | (go_at_call 38; refine HT.out.mono ?_; rintro e w' ⟨rfl, rfl⟩)
    | (go_at_call 39; refine HR.out.mono ?_; rintro e w' ⟨rfl, rfl⟩)
    | (go_at_call 40; refine HO.out.mono ?_; rintro e w' ⟨rfl, rfl⟩)
    | (go_at_call 41; refine HP.out.mono ?_; rintro e w' ⟨rfl, rfl⟩)
    | (go_at_call 42; refine (pkalive _).mono ?_; rintro e w1 ⟨rfl, hb⟩))
  go_ret
  exact ⟨rfl, hb⟩
set_option maxHeartbeats 1000000 in
theorem walk_big (A : Option Addr) (c n : Nat) (v : Int) (w : World) (hl : 200 < n) :
    Calls Try.prog 10 #[.int .u32 v, .slice A n c] w fun e w' => e = .returned (.bool true) ∧ Below w.heap.size w w' := by
  go_enter Try.func10, Try.ntmps10
  go_wp2_with fail
  go_ret
  exact ⟨rfl, Below.refl _ _⟩
theorem walk {v : Int} {A : Option Addr} {c : Nat} {zs : List Int} (hv : (Lit.int .u32 v).wf = true) (hlc : zs.length ≤ c) (hm : c ≤ maxLen) {w : World} (hr : RdI w .i64 A zs) :
    Calls Try.prog 10 #[.int .u32 v, .slice A zs.length c] w fun e w' => e = .returned (.bool true) ∧ Below w.heap.size w w' := by
  obtain ⟨v0, v1⟩ := bounds_u32 hv
  by_cases h : zs.length ≤ 200
  · have hT := total_any A c zs w hr (by omega)
    have hR := rtotal_any A c zs w hr (by omega)
    by_cases he : totE zs ≠ 0
    · exact walk0 A c zs v 0 w h hT hR (of_bad A c zs v w hr (by omega) he) (rof_bad A c zs v w hr (by omega) he)
    · have hM := may_of he
      obtain ⟨m, hm⟩ := at_of hM v0 (by omega)
      have e0 := (may_tot hM).2
      exact walk0 A c zs v m w h hT hR (by rw [e0]; exact of_may A c zs v m w hr (by omega) hM v0 (by omega) hm) (by rw [e0]; exact rof_may A c zs v m w hr (by omega) hM v0 (by omega) hm)
  · exact walk_big A c zs.length v w (by omega)

end Go.Proofs.Ytkepplkfjcoemab.pickTells
