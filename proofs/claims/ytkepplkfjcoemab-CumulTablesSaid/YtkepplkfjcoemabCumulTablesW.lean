/- The walk of CumulTables: it answers true for every input, and leaves all old blocks as they were. No condition. -/
import Derived.Test.YtkepplkfjcoemabRows
import Derived.Test.YtkepplkfjcoemabRowKit
import Derived.Test.YtkepplkfjcoemabSlicesEq
import Derived.Test.YtkepplkfjcoemabSlicesEqM
import Derived.Test.YtkepplkfjcoemabRowL
import Derived.Test.YtkepplkfjcoemabCumulMath
import Derived.Test.YtkepplkfjcoemabCumulA
import Derived.Test.YtkepplkfjcoemabCumulB
import Derived.Test.YtkepplkfjcoemabCumulC
import Derived.WalkKit
import Derived.ProofKit
import Derived.OpenShut
import Derived.Deep.QuietTactic
import Derived.BigQuiet
import Derived.Lib.SmallJoins
import Derived.Lib.Hide
import Derived.WalkSpells
import Derived.WalkLawsBesides
namespace Go.Proofs.Ytkepplkfjcoemab.cumulTables
open Go.ChangeShapes Go.WideShapes Go.ChangeAt Go.RowKit Go.Joins
set_option linter.unusedSimpArgs false
set_option linter.unusedVariables false

set_option maxHeartbeats 1000000 in
theorem walk_no (r : Int) (w : World) (h : r < 0 ∨ 4000 < r) :
    Calls Try.prog 5 #[.int .i64 r] w fun e w' => e = .returned (.bool true) ∧ Below w.heap.size w w' := by
  have HW := Lib.hid (weights_no r w h)
  have HT := Lib.hid (table_no r w h)
  by_cases h0 : r < 0
  · clear h
    go_enter Try.func5, Try.ntmps5
    go_wp2_with (first
      | (go_at_call 22; refine HW.out.mono ?_; rintro e w' ⟨rfl, rfl⟩)
      | (go_at_call 23; refine HT.out.mono ?_; rintro e w' ⟨rfl, rfl⟩)
      | (go_at_call 24; refine (cualive _).mono ?_; rintro e w1 ⟨rfl, hb⟩))
    go_ret
    exact ⟨rfl, hb⟩
  · have h1 : 4000 < r := by omega
    clear h
    go_enter Try.func5, Try.ntmps5
    go_wp2_with (first
      | (go_at_call 22; refine HW.out.mono ?_; rintro e w' ⟨rfl, rfl⟩)
      | (go_at_call 23; refine HT.out.mono ?_; rintro e w' ⟨rfl, rfl⟩)
      | (go_at_call 24; refine (cualive _).mono ?_; rintro e w1 ⟨rfl, hb⟩))
    go_ret
    exact ⟨rfl, hb⟩
set_option maxHeartbeats 1000000 in
theorem walk_yes (r n : Nat) (w : World) (h : Cnt r n) :
    Calls Try.prog 5 #[.int .i64 r] w fun e w' => e = .returned (.bool true) ∧ Below w.heap.size w w' := by
  have H1 := Lib.hid (fun w => weights_rd h w)
  have H2 := Lib.hid (fun w => table_rd h w)
  have H3 := Lib.hid (fun w => rweights_rd h w)
  have H4 := Lib.hid (fun w => rtable_rd h w)
  have hr := h.hr
  have hn := h.n2
  have LW := Lib.hid (rowL_len (wkI r) n)
  have LT := Lib.hid (rowL_len (tbI r n) n)
  clear h
  go_enter Try.func5, Try.ntmps5
  go_wp2_with fail
  refine (H1.out _).mono ?_
  rintro e w1 ⟨A1, c1, rfl, R1, hb1⟩
  have R1 := Lib.hid R1
  go_wp2_with fail
  refine (H2.out _).mono ?_
  rintro e w2 ⟨A2, c2, rfl, R2, hb2⟩
  have R1 := Lib.hid (R1.out.kept hb2)
  have R2 := Lib.hid R2
  have hb2 := hb1.trans (hb2.mono hb1.size)
  clear hb1
  go_wp2_with fail
  refine (H3.out _).mono ?_
  rintro e w3 ⟨A3, c3, rfl, R3, hb3⟩
  have R1 := Lib.hid (R1.out.kept hb3)
  have R2 := Lib.hid (R2.out.kept hb3)
  have R3 := Lib.hid R3
  have hb3 := hb2.trans (hb3.mono hb2.size)
  clear hb2
  go_wp2_with fail
  refine (equal_n A1 A3 c1 c3 n _ _ LW.out R1.out R3.out (by omega)).mono ?_
  rintro e w' ⟨rfl, q, rfl⟩
  have R2 : Hid (RdI (w3.drewN q) .u64 A2 (rowL (tbI r n) n)) := Lib.hid R2.out
  have hb3 := below_drewN hb3 q
  obtain ⟨X, hX⟩ : ∃ X : World, w3.drewN q = X := ⟨_, rfl⟩
  rw [hX] at R2 hb3
  rw [hX]
  clear hX R1 R3
  go_wp2_with fail
  refine (H4.out _).mono ?_
  rintro e w4 ⟨A4, c4, rfl, R4, hb4⟩
  have R2 := Lib.hid (R2.out.kept hb4)
  have R4 := Lib.hid R4
  have hb4 := hb3.trans (hb4.mono hb3.size)
  clear hb3
  go_wp2_with fail
  refine (equal_n A2 A4 c2 c4 n _ _ LT.out R2.out R4.out (by omega)).mono ?_
  rintro e w' ⟨rfl, q2, rfl⟩
  go_wp2_with fail
  refine (cualive _).mono ?_
  rintro e w5 ⟨rfl, hb5⟩
  go_wp2_with fail
  go_ret
  exact ⟨rfl, (below_drewN hb4 q2).trans (hb5.mono hb4.size)⟩
theorem walk {r : Int} (w0 : (Lit.int .i64 r).wf = true) (w : World) :
    Calls Try.prog 5 #[.int .i64 r] w fun e w' => e = .returned (.bool true) ∧ Below w.heap.size w w' := by
  by_cases h : r < 0 ∨ 4000 < r
  · exact walk_no r w h
  · obtain ⟨k, rfl⟩ := Int.eq_ofNat_of_zero_le (show 0 ≤ r by omega)
    obtain ⟨n, hn⟩ := cnt_ex (r := k) (by omega)
    exact walk_yes k n w hn

end Go.Proofs.Ytkepplkfjcoemab.cumulTables
