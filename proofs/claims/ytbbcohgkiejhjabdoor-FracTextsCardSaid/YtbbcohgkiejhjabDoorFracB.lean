/- The chapter's example (alive): closed texts. -/
import Derived.Test.YtbbcohgkiejhjabDoorRows
import Derived.Test.YtbbcohgkiejhjabDoorNumsMath
import Derived.Test.YtbbcohgkiejhjabDoorRowKit
import Derived.Test.YtbbcohgkiejhjabDoorFracA
import Derived.Test.YtbbcohgkiejhjabDoorShelf
import Derived.WalkKit
import Derived.Lib.Hide
import Derived.WalkSpells
import Derived.WalkLawsBesides
import Derived.Deep.QuietTactic
import Derived.BigQuiet
namespace Go.Proofs.YtbbcohgkiejhjabDoor
open Go.RowKit
set_option linter.unusedSimpArgs false
set_option linter.unusedVariables false
/-- one digit -/
def dg (i : Nat) : ByteArray := ⟨(Lib.decDigits i).toArray⟩
set_option maxHeartbeats 400000 in
theorem dof_small (i : Nat) (hi : i < 100) (w : World) :
    Calls Tryd.prog 35 #[.int .i64 i] w fun e w' => e = .returned (.string (dg i)) ∧ w = w' := by
  have h : Calls Tryd.prog 44 #[.int .i64 i] w fun e w' => e = .returned (.string (dg i)) ∧ w = w' := by
    go_enter Tryd.func44, Tryd.ntmps44
    go_wp2_with fail
    refine (Tryd.strconv_FormatInt_10_small i hi _).mono ?_
    rintro e w' ⟨rfl, rfl⟩
    go_wp2_with fail
    go_ret
    exact ⟨rfl, rfl⟩
  have H := Lib.hid h
  clear h
  go_enter Tryd.func35, Tryd.ntmps35
  go_wp2_with fail
  refine H.out.mono ?_
  rintro e w' ⟨rfl, rfl⟩
  go_wp2_with fail
  go_ret
  exact ⟨rfl, rfl⟩
theorem dof_lit (i : Nat) (s : ByteArray) (w : World) (hi : i < 100) (h : dg i = s) : Calls Tryd.prog 35 #[.int .i64 i] w fun e w' => e = .returned (.string s) ∧ w = w' := by rw [← h]; exact dof_small i hi w
theorem dg1 : dg 1 = { data := #[49] } := by decide +kernel
theorem dg2 : dg 2 = { data := #[50] } := by decide +kernel
theorem dg3 : dg 3 = { data := #[51] } := by decide +kernel
theorem qs {P : Program} {f : FuncId} {args : Array Value} {w : World} {v : Value} (h : Calls P f args w fun e w' => e = .returned v ∧ w = w') : Calls P f args w fun e w' => e = .returned v ∧ w' = w := h.mono fun _ _ ⟨a, b⟩ => ⟨a, b.symm⟩
theorem retS {a b : ByteArray} (h : a = b) : Ending.returned (.string a) = .returned (.string b) := by rw [h]
set_option maxHeartbeats 400000 in
theorem text312 (w : World) :
    Calls Tryd.prog 18 #[.agg #[.int .i64 3, .int .i64 1, .int .i64 2]] w fun e w' => e = .returned (.string { data := #[51, 32, 49, 47, 50] }) ∧ Below w.heap.size w w' := by
  go_enter Tryd.func18, Tryd.ntmps18
  go_wp2_with fail
  refine (dof_lit 3 _ _ (by omega) dg3).mono ?_
  rintro e w' ⟨rfl, rfl⟩
  go_wp2_with fail
  go_quiet ((first | (go_at_call_of 35 (Value.int IntKind.i64 1); exact Calls.quiet_of_same (qs (dof_lit 1 _ _ (by omega) dg1))) | (go_at_call_of 35 (Value.int IntKind.i64 2); exact Calls.quiet_of_same (qs (dof_lit 2 _ _ (by omega) dg2)))))
  go_wp2_with fail
  go_ret
  exact ⟨retS (by decide +kernel), below_drewN ((Below.refl _ _).alloc (Nat.le_refl _) _) _⟩
set_option maxHeartbeats 400000 in
theorem alive_any (w : World) :
    Calls Tryd.prog 13 #[] w fun e w' => e = .returned (.bool true) ∧ Below w.heap.size w w' := by
  go_enter Tryd.func13, Tryd.ntmps13
  go_wp2_with fail
  refine (of_ok 7 2 _ (by omega) (by omega) (by omega)).mono ?_
  rintro e w1 ⟨rfl, hb1⟩
  go_wp2_with fail
  refine (text312 _).mono ?_
  rintro e w2 ⟨rfl, hb2⟩
  go_wp2_with fail
  go_ret
  refine ⟨rfl, Below.trans ?_ (hb2.mono (by have := hb1.size; simp; omega))⟩
  repeat (first | exact hb1 | exact hb1.size | apply Below.setCell | apply Below.alloc)
end Go.Proofs.YtbbcohgkiejhjabDoor
