/- The program's eta: doors, ways, any direction. -/
import Derived.Test.YtbjcigkakeffmaaDoorRows
import Derived.Test.YtbjcigkakeffmaaDoorKitM
import Derived.Test.YtbjcigkakeffmaaDoorCmp
import Derived.Test.YtbjcigkakeffmaaDoorPlaceA
import Derived.Test.YtbjcigkakeffmaaDoorVetA
import Derived.Test.YtbjcigkakeffmaaDoorVetB
import Derived.Test.YtbjcigkakeffmaaDoorNearMath
import Derived.Test.YtbjcigkakeffmaaDoorNearA
import Derived.Test.YtbjcigkakeffmaaDoorNearB
import Derived.Test.YtbjcigkakeffmaaDoorNearC
import Derived.Test.YtbjcigkakeffmaaDoorNearG
import Derived.Test.YtbjcigkakeffmaaDoorNearI
import Derived.Test.YtbjcigkakeffmaaDoorBitM
import Derived.Test.YtbjcigkakeffmaaDoorBitsL
import Derived.Test.YtbjcigkakeffmaaDoorBitsN
import Derived.Test.YtbjcigkakeffmaaDoorBitsT
import Derived.Test.YtbjcigkakeffmaaDoorBitsU
import Derived.Test.YtbjcigkakeffmaaDoorBitsV
import Derived.Test.YtbjcigkakeffmaaDoorBitsX
import Derived.Test.YtbjcigkakeffmaaDoorWantA
import Derived.Test.YtbjcigkakeffmaaDoorWantB
import Derived.Test.YtbjcigkakeffmaaDoorWantC
import Derived.Test.YtbjcigkakeffmaaDoorEtaA
import Derived.Test.YtbjcigkakeffmaaDoorEtaB
import Derived.Test.YtbjcigkakeffmaaDoorEtaMath
import Derived.WalkKit
import Derived.IntWalk
import Derived.Lib.Hide
import Derived.WalkSpells
import Derived.WalkLawsBesides
import Derived.Laws.CopyOwn
import Derived.Laws.MakeOwn
import Derived.Laws.OwnMore
import Derived.OwnWalk
import Derived.Deep.QuietTactic
import Derived.BigQuiet
import Derived.Deep.RegionHeld3
import Derived.Deep.LoopGhost
import Derived.BigRegion
import Derived.Below
namespace Go.Proofs.YtbjcigkakeffmaaDoor
open Go.RowKit
set_option linter.unusedSimpArgs false
set_option linter.unusedVariables false
/-- for how long a door keeps a car -/
def doorV (tr dw cl mo le : Int) : Int := if mo = 2 then le + tr + dw + cl else if mo = 3 then le + dw + cl else if mo = 4 then le else 0
theorem door_bd {tr dw cl mo le : Int} (h5 : 1 ≤ dw ∧ dw ≤ 64) (h6 : 1 ≤ cl ∧ cl ≤ 64) (h7 : 1 ≤ tr ∧ tr ≤ 64) (l0 : 0 ≤ le) (l1 : le ≤ 64) : 0 ≤ doorV tr dw cl mo le ∧ doorV tr dw cl mo le ≤ 256 := by
  unfold doorV; repeat' split
  all_goals omega
set_option maxRecDepth 100000 in
set_option maxHeartbeats 2000000 in
theorem edoor_any (s : Nat → Int) (A : Option Addr) (n c : Nat) (p d mo le : Int) (bw : Bool) (R : Value) (w : World) (h5 : 1 ≤ s 5 ∧ s 5 ≤ 64) (h6 : 1 ≤ s 6 ∧ s 6 ≤ 64) (h7 : 1 ≤ s 7 ∧ s 7 ≤ 64) (m0 : 0 ≤ mo) (m1 : mo ≤ 4) (l0 : 0 ≤ le) (l1 : le ≤ 64) :
    Calls Tryd.prog 7 #[scnV s A n c, carV p d mo le bw R] w fun e w' => e = .returned (.int .i64 (doorV (s 7) (s 5) (s 6) mo le)) ∧ Below w.heap.size w w' := by
  obtain ⟨h50, h51⟩ := h5
  obtain ⟨h60, h61⟩ := h6
  obtain ⟨h70, h71⟩ := h7
  unfold scnV carV
  obtain ⟨s5, e5⟩ : ∃ a, s 5 = a := ⟨_, rfl⟩
  obtain ⟨s6, e6⟩ : ∃ a, s 6 = a := ⟨_, rfl⟩
  obtain ⟨s7, e7⟩ : ∃ a, s 7 = a := ⟨_, rfl⟩
  rw [e5] at h50 h51 ⊢
  rw [e6] at h60 h61 ⊢
  rw [e7] at h70 h71 ⊢
  clear e5 e6 e7
  rcases (show mo = 2 ∨ mo = 3 ∨ mo = 4 ∨ mo = 0 ∨ mo = 1 by omega) with rfl | rfl | rfl | rfl | rfl
  · go_enter Tryd.func7, Tryd.ntmps7
    go_wp2_with fail
    have BS := (Blk.new w #[.int .i64 (s 0), .int .i64 (s 1), .int .i64 (s 2), .int .i64 (s 3), .int .i64 (s 4), .int .i64 s5, .int .i64 s6, .int .i64 s7, .slice A n c, .int .i64 (s 9), .int .i64 (s 10), .int .i64 (s 11), .int .i64 (s 12)] 25).alloc (.cells #[.int .i64 p, .int .i64 d, .int .i64 2, .int .i64 le, .bool bw, R] 36)
    have BC := Blk.new (w.alloc (.cells #[.int .i64 (s 0), .int .i64 (s 1), .int .i64 (s 2), .int .i64 (s 3), .int .i64 (s 4), .int .i64 s5, .int .i64 s6, .int .i64 s7, .slice A n c, .int .i64 (s 9), .int .i64 (s 10), .int .i64 (s 11), .int .i64 (s 12)] 25)) #[.int .i64 p, .int .i64 d, .int .i64 2, .int .i64 le, .bool bw, R] 36
    rw [World.size_alloc] at BC
    have BE : Below w.heap.size w ((w.alloc (.cells #[.int .i64 (s 0), .int .i64 (s 1), .int .i64 (s 2), .int .i64 (s 3), .int .i64 (s 4), .int .i64 s5, .int .i64 s6, .int .i64 s7, .slice A n c, .int .i64 (s 9), .int .i64 (s 10), .int .i64 (s 11), .int .i64 (s 12)] 25)).alloc (.cells #[.int .i64 p, .int .i64 d, .int .i64 2, .int .i64 le, .bool bw, R] 36)) := ((Below.refl w.heap.size w).alloc (Nat.le_refl _) _).alloc (by simp <;> omega) _
    obtain ⟨V0, hV0⟩ : ∃ V, ((w.alloc (.cells #[.int .i64 (s 0), .int .i64 (s 1), .int .i64 (s 2), .int .i64 (s 3), .int .i64 (s 4), .int .i64 s5, .int .i64 s6, .int .i64 s7, .slice A n c, .int .i64 (s 9), .int .i64 (s 10), .int .i64 (s 11), .int .i64 (s 12)] 25)).alloc (.cells #[.int .i64 p, .int .i64 d, .int .i64 2, .int .i64 le, .bool bw, R] 36)) = V := ⟨_, rfl⟩
    rw [hV0] at BS BC BE ⊢
    have HS := Lib.hid BS
    have HC := Lib.hid BC
    have EE := Lib.hid BE
    have ne0_1 : w.heap.size ≠ w.heap.size + 1 := by omega
    have ne1_0 : w.heap.size + 1 ≠ w.heap.size := by omega
    clear hV0 BE BS BC
    have kS0 : V0.cell? ⟨w.heap.size, 0, none⟩ = some (.int .i64 (s 0)) := HS.out.cell 0
    have kS1 : V0.cell? ⟨w.heap.size, 1, none⟩ = some (.int .i64 (s 1)) := HS.out.cell 1
    have kS2 : V0.cell? ⟨w.heap.size, 2, none⟩ = some (.int .i64 (s 2)) := HS.out.cell 2
    have kS3 : V0.cell? ⟨w.heap.size, 3, none⟩ = some (.int .i64 (s 3)) := HS.out.cell 3
    have kS4 : V0.cell? ⟨w.heap.size, 4, none⟩ = some (.int .i64 (s 4)) := HS.out.cell 4
    have kS5 : V0.cell? ⟨w.heap.size, 5, none⟩ = some (.int .i64 s5) := HS.out.cell 5
    have kS6 : V0.cell? ⟨w.heap.size, 6, none⟩ = some (.int .i64 s6) := HS.out.cell 6
    have kS7 : V0.cell? ⟨w.heap.size, 7, none⟩ = some (.int .i64 s7) := HS.out.cell 7
    have kS8 : V0.cell? ⟨w.heap.size, 8, none⟩ = some (.slice A n c) := HS.out.cell 8
    have kS9 : V0.cell? ⟨w.heap.size, 9, none⟩ = some (.int .i64 (s 9)) := HS.out.cell 9
    have kS10 : V0.cell? ⟨w.heap.size, 10, none⟩ = some (.int .i64 (s 10)) := HS.out.cell 10
    have kS11 : V0.cell? ⟨w.heap.size, 11, none⟩ = some (.int .i64 (s 11)) := HS.out.cell 11
    have kS12 : V0.cell? ⟨w.heap.size, 12, none⟩ = some (.int .i64 (s 12)) := HS.out.cell 12
    have kC0 : V0.cell? ⟨w.heap.size + 1, 0, none⟩ = some (.int .i64 p) := HC.out.cell 0
    have kC1 : V0.cell? ⟨w.heap.size + 1, 1, none⟩ = some (.int .i64 d) := HC.out.cell 1
    have kC2 : V0.cell? ⟨w.heap.size + 1, 2, none⟩ = some (.int .i64 2) := HC.out.cell 2
    have kC3 : V0.cell? ⟨w.heap.size + 1, 3, none⟩ = some (.int .i64 le) := HC.out.cell 3
    have kC4 : V0.cell? ⟨w.heap.size + 1, 4, none⟩ = some (.bool bw) := HC.out.cell 4
    have kC5 : V0.cell? ⟨w.heap.size + 1, 5, none⟩ = some (R) := HC.out.cell 5
    go_wp2_with fail
    go_ret
    exact ⟨nret (show _ = doorV s7 s5 s6 2 le by unfold doorV; simp <;> omega), EE.out⟩
  · go_enter Tryd.func7, Tryd.ntmps7
    go_wp2_with fail
    have BS := (Blk.new w #[.int .i64 (s 0), .int .i64 (s 1), .int .i64 (s 2), .int .i64 (s 3), .int .i64 (s 4), .int .i64 s5, .int .i64 s6, .int .i64 s7, .slice A n c, .int .i64 (s 9), .int .i64 (s 10), .int .i64 (s 11), .int .i64 (s 12)] 25).alloc (.cells #[.int .i64 p, .int .i64 d, .int .i64 3, .int .i64 le, .bool bw, R] 36)
    have BC := Blk.new (w.alloc (.cells #[.int .i64 (s 0), .int .i64 (s 1), .int .i64 (s 2), .int .i64 (s 3), .int .i64 (s 4), .int .i64 s5, .int .i64 s6, .int .i64 s7, .slice A n c, .int .i64 (s 9), .int .i64 (s 10), .int .i64 (s 11), .int .i64 (s 12)] 25)) #[.int .i64 p, .int .i64 d, .int .i64 3, .int .i64 le, .bool bw, R] 36
    rw [World.size_alloc] at BC
    have BE : Below w.heap.size w ((w.alloc (.cells #[.int .i64 (s 0), .int .i64 (s 1), .int .i64 (s 2), .int .i64 (s 3), .int .i64 (s 4), .int .i64 s5, .int .i64 s6, .int .i64 s7, .slice A n c, .int .i64 (s 9), .int .i64 (s 10), .int .i64 (s 11), .int .i64 (s 12)] 25)).alloc (.cells #[.int .i64 p, .int .i64 d, .int .i64 3, .int .i64 le, .bool bw, R] 36)) := ((Below.refl w.heap.size w).alloc (Nat.le_refl _) _).alloc (by simp <;> omega) _
    obtain ⟨V0, hV0⟩ : ∃ V, ((w.alloc (.cells #[.int .i64 (s 0), .int .i64 (s 1), .int .i64 (s 2), .int .i64 (s 3), .int .i64 (s 4), .int .i64 s5, .int .i64 s6, .int .i64 s7, .slice A n c, .int .i64 (s 9), .int .i64 (s 10), .int .i64 (s 11), .int .i64 (s 12)] 25)).alloc (.cells #[.int .i64 p, .int .i64 d, .int .i64 3, .int .i64 le, .bool bw, R] 36)) = V := ⟨_, rfl⟩
    rw [hV0] at BS BC BE ⊢
    have HS := Lib.hid BS
    have HC := Lib.hid BC
    have EE := Lib.hid BE
    have ne0_1 : w.heap.size ≠ w.heap.size + 1 := by omega
    have ne1_0 : w.heap.size + 1 ≠ w.heap.size := by omega
    clear hV0 BE BS BC
    have kS0 : V0.cell? ⟨w.heap.size, 0, none⟩ = some (.int .i64 (s 0)) := HS.out.cell 0
    have kS1 : V0.cell? ⟨w.heap.size, 1, none⟩ = some (.int .i64 (s 1)) := HS.out.cell 1
    have kS2 : V0.cell? ⟨w.heap.size, 2, none⟩ = some (.int .i64 (s 2)) := HS.out.cell 2
    have kS3 : V0.cell? ⟨w.heap.size, 3, none⟩ = some (.int .i64 (s 3)) := HS.out.cell 3
    have kS4 : V0.cell? ⟨w.heap.size, 4, none⟩ = some (.int .i64 (s 4)) := HS.out.cell 4
    have kS5 : V0.cell? ⟨w.heap.size, 5, none⟩ = some (.int .i64 s5) := HS.out.cell 5
    have kS6 : V0.cell? ⟨w.heap.size, 6, none⟩ = some (.int .i64 s6) := HS.out.cell 6
    have kS7 : V0.cell? ⟨w.heap.size, 7, none⟩ = some (.int .i64 s7) := HS.out.cell 7
    have kS8 : V0.cell? ⟨w.heap.size, 8, none⟩ = some (.slice A n c) := HS.out.cell 8
    have kS9 : V0.cell? ⟨w.heap.size, 9, none⟩ = some (.int .i64 (s 9)) := HS.out.cell 9
    have kS10 : V0.cell? ⟨w.heap.size, 10, none⟩ = some (.int .i64 (s 10)) := HS.out.cell 10
    have kS11 : V0.cell? ⟨w.heap.size, 11, none⟩ = some (.int .i64 (s 11)) := HS.out.cell 11
    have kS12 : V0.cell? ⟨w.heap.size, 12, none⟩ = some (.int .i64 (s 12)) := HS.out.cell 12
    have kC0 : V0.cell? ⟨w.heap.size + 1, 0, none⟩ = some (.int .i64 p) := HC.out.cell 0
    have kC1 : V0.cell? ⟨w.heap.size + 1, 1, none⟩ = some (.int .i64 d) := HC.out.cell 1
    have kC2 : V0.cell? ⟨w.heap.size + 1, 2, none⟩ = some (.int .i64 3) := HC.out.cell 2
    have kC3 : V0.cell? ⟨w.heap.size + 1, 3, none⟩ = some (.int .i64 le) := HC.out.cell 3
    have kC4 : V0.cell? ⟨w.heap.size + 1, 4, none⟩ = some (.bool bw) := HC.out.cell 4
    have kC5 : V0.cell? ⟨w.heap.size + 1, 5, none⟩ = some (R) := HC.out.cell 5
    go_wp2_with fail
    go_ret
    exact ⟨nret (show _ = doorV s7 s5 s6 3 le by unfold doorV; simp <;> omega), EE.out⟩
  · go_enter Tryd.func7, Tryd.ntmps7
    go_wp2_with fail
    have BS := (Blk.new w #[.int .i64 (s 0), .int .i64 (s 1), .int .i64 (s 2), .int .i64 (s 3), .int .i64 (s 4), .int .i64 s5, .int .i64 s6, .int .i64 s7, .slice A n c, .int .i64 (s 9), .int .i64 (s 10), .int .i64 (s 11), .int .i64 (s 12)] 25).alloc (.cells #[.int .i64 p, .int .i64 d, .int .i64 4, .int .i64 le, .bool bw, R] 36)
    have BC := Blk.new (w.alloc (.cells #[.int .i64 (s 0), .int .i64 (s 1), .int .i64 (s 2), .int .i64 (s 3), .int .i64 (s 4), .int .i64 s5, .int .i64 s6, .int .i64 s7, .slice A n c, .int .i64 (s 9), .int .i64 (s 10), .int .i64 (s 11), .int .i64 (s 12)] 25)) #[.int .i64 p, .int .i64 d, .int .i64 4, .int .i64 le, .bool bw, R] 36
    rw [World.size_alloc] at BC
    have BE : Below w.heap.size w ((w.alloc (.cells #[.int .i64 (s 0), .int .i64 (s 1), .int .i64 (s 2), .int .i64 (s 3), .int .i64 (s 4), .int .i64 s5, .int .i64 s6, .int .i64 s7, .slice A n c, .int .i64 (s 9), .int .i64 (s 10), .int .i64 (s 11), .int .i64 (s 12)] 25)).alloc (.cells #[.int .i64 p, .int .i64 d, .int .i64 4, .int .i64 le, .bool bw, R] 36)) := ((Below.refl w.heap.size w).alloc (Nat.le_refl _) _).alloc (by simp <;> omega) _
    obtain ⟨V0, hV0⟩ : ∃ V, ((w.alloc (.cells #[.int .i64 (s 0), .int .i64 (s 1), .int .i64 (s 2), .int .i64 (s 3), .int .i64 (s 4), .int .i64 s5, .int .i64 s6, .int .i64 s7, .slice A n c, .int .i64 (s 9), .int .i64 (s 10), .int .i64 (s 11), .int .i64 (s 12)] 25)).alloc (.cells #[.int .i64 p, .int .i64 d, .int .i64 4, .int .i64 le, .bool bw, R] 36)) = V := ⟨_, rfl⟩
    rw [hV0] at BS BC BE ⊢
    have HS := Lib.hid BS
    have HC := Lib.hid BC
    have EE := Lib.hid BE
    have ne0_1 : w.heap.size ≠ w.heap.size + 1 := by omega
    have ne1_0 : w.heap.size + 1 ≠ w.heap.size := by omega
    clear hV0 BE BS BC
    have kS0 : V0.cell? ⟨w.heap.size, 0, none⟩ = some (.int .i64 (s 0)) := HS.out.cell 0
    have kS1 : V0.cell? ⟨w.heap.size, 1, none⟩ = some (.int .i64 (s 1)) := HS.out.cell 1
    have kS2 : V0.cell? ⟨w.heap.size, 2, none⟩ = some (.int .i64 (s 2)) := HS.out.cell 2
    have kS3 : V0.cell? ⟨w.heap.size, 3, none⟩ = some (.int .i64 (s 3)) := HS.out.cell 3
    have kS4 : V0.cell? ⟨w.heap.size, 4, none⟩ = some (.int .i64 (s 4)) := HS.out.cell 4
    have kS5 : V0.cell? ⟨w.heap.size, 5, none⟩ = some (.int .i64 s5) := HS.out.cell 5
    have kS6 : V0.cell? ⟨w.heap.size, 6, none⟩ = some (.int .i64 s6) := HS.out.cell 6
    have kS7 : V0.cell? ⟨w.heap.size, 7, none⟩ = some (.int .i64 s7) := HS.out.cell 7
    have kS8 : V0.cell? ⟨w.heap.size, 8, none⟩ = some (.slice A n c) := HS.out.cell 8
    have kS9 : V0.cell? ⟨w.heap.size, 9, none⟩ = some (.int .i64 (s 9)) := HS.out.cell 9
    have kS10 : V0.cell? ⟨w.heap.size, 10, none⟩ = some (.int .i64 (s 10)) := HS.out.cell 10
    have kS11 : V0.cell? ⟨w.heap.size, 11, none⟩ = some (.int .i64 (s 11)) := HS.out.cell 11
    have kS12 : V0.cell? ⟨w.heap.size, 12, none⟩ = some (.int .i64 (s 12)) := HS.out.cell 12
    have kC0 : V0.cell? ⟨w.heap.size + 1, 0, none⟩ = some (.int .i64 p) := HC.out.cell 0
    have kC1 : V0.cell? ⟨w.heap.size + 1, 1, none⟩ = some (.int .i64 d) := HC.out.cell 1
    have kC2 : V0.cell? ⟨w.heap.size + 1, 2, none⟩ = some (.int .i64 4) := HC.out.cell 2
    have kC3 : V0.cell? ⟨w.heap.size + 1, 3, none⟩ = some (.int .i64 le) := HC.out.cell 3
    have kC4 : V0.cell? ⟨w.heap.size + 1, 4, none⟩ = some (.bool bw) := HC.out.cell 4
    have kC5 : V0.cell? ⟨w.heap.size + 1, 5, none⟩ = some (R) := HC.out.cell 5
    go_wp2_with fail
    go_ret
    exact ⟨nret (show _ = doorV s7 s5 s6 4 le by unfold doorV; simp <;> omega), EE.out⟩
  · go_enter Tryd.func7, Tryd.ntmps7
    go_wp2_with fail
    have BS := (Blk.new w #[.int .i64 (s 0), .int .i64 (s 1), .int .i64 (s 2), .int .i64 (s 3), .int .i64 (s 4), .int .i64 s5, .int .i64 s6, .int .i64 s7, .slice A n c, .int .i64 (s 9), .int .i64 (s 10), .int .i64 (s 11), .int .i64 (s 12)] 25).alloc (.cells #[.int .i64 p, .int .i64 d, .int .i64 0, .int .i64 le, .bool bw, R] 36)
    have BC := Blk.new (w.alloc (.cells #[.int .i64 (s 0), .int .i64 (s 1), .int .i64 (s 2), .int .i64 (s 3), .int .i64 (s 4), .int .i64 s5, .int .i64 s6, .int .i64 s7, .slice A n c, .int .i64 (s 9), .int .i64 (s 10), .int .i64 (s 11), .int .i64 (s 12)] 25)) #[.int .i64 p, .int .i64 d, .int .i64 0, .int .i64 le, .bool bw, R] 36
    rw [World.size_alloc] at BC
    have BE : Below w.heap.size w ((w.alloc (.cells #[.int .i64 (s 0), .int .i64 (s 1), .int .i64 (s 2), .int .i64 (s 3), .int .i64 (s 4), .int .i64 s5, .int .i64 s6, .int .i64 s7, .slice A n c, .int .i64 (s 9), .int .i64 (s 10), .int .i64 (s 11), .int .i64 (s 12)] 25)).alloc (.cells #[.int .i64 p, .int .i64 d, .int .i64 0, .int .i64 le, .bool bw, R] 36)) := ((Below.refl w.heap.size w).alloc (Nat.le_refl _) _).alloc (by simp <;> omega) _
    obtain ⟨V0, hV0⟩ : ∃ V, ((w.alloc (.cells #[.int .i64 (s 0), .int .i64 (s 1), .int .i64 (s 2), .int .i64 (s 3), .int .i64 (s 4), .int .i64 s5, .int .i64 s6, .int .i64 s7, .slice A n c, .int .i64 (s 9), .int .i64 (s 10), .int .i64 (s 11), .int .i64 (s 12)] 25)).alloc (.cells #[.int .i64 p, .int .i64 d, .int .i64 0, .int .i64 le, .bool bw, R] 36)) = V := ⟨_, rfl⟩
    rw [hV0] at BS BC BE ⊢
    have HS := Lib.hid BS
    have HC := Lib.hid BC
    have EE := Lib.hid BE
    have ne0_1 : w.heap.size ≠ w.heap.size + 1 := by omega
    have ne1_0 : w.heap.size + 1 ≠ w.heap.size := by omega
    clear hV0 BE BS BC
    have kS0 : V0.cell? ⟨w.heap.size, 0, none⟩ = some (.int .i64 (s 0)) := HS.out.cell 0
    have kS1 : V0.cell? ⟨w.heap.size, 1, none⟩ = some (.int .i64 (s 1)) := HS.out.cell 1
    have kS2 : V0.cell? ⟨w.heap.size, 2, none⟩ = some (.int .i64 (s 2)) := HS.out.cell 2
    have kS3 : V0.cell? ⟨w.heap.size, 3, none⟩ = some (.int .i64 (s 3)) := HS.out.cell 3
    have kS4 : V0.cell? ⟨w.heap.size, 4, none⟩ = some (.int .i64 (s 4)) := HS.out.cell 4
    have kS5 : V0.cell? ⟨w.heap.size, 5, none⟩ = some (.int .i64 s5) := HS.out.cell 5
    have kS6 : V0.cell? ⟨w.heap.size, 6, none⟩ = some (.int .i64 s6) := HS.out.cell 6
    have kS7 : V0.cell? ⟨w.heap.size, 7, none⟩ = some (.int .i64 s7) := HS.out.cell 7
    have kS8 : V0.cell? ⟨w.heap.size, 8, none⟩ = some (.slice A n c) := HS.out.cell 8
    have kS9 : V0.cell? ⟨w.heap.size, 9, none⟩ = some (.int .i64 (s 9)) := HS.out.cell 9
    have kS10 : V0.cell? ⟨w.heap.size, 10, none⟩ = some (.int .i64 (s 10)) := HS.out.cell 10
    have kS11 : V0.cell? ⟨w.heap.size, 11, none⟩ = some (.int .i64 (s 11)) := HS.out.cell 11
    have kS12 : V0.cell? ⟨w.heap.size, 12, none⟩ = some (.int .i64 (s 12)) := HS.out.cell 12
    have kC0 : V0.cell? ⟨w.heap.size + 1, 0, none⟩ = some (.int .i64 p) := HC.out.cell 0
    have kC1 : V0.cell? ⟨w.heap.size + 1, 1, none⟩ = some (.int .i64 d) := HC.out.cell 1
    have kC2 : V0.cell? ⟨w.heap.size + 1, 2, none⟩ = some (.int .i64 0) := HC.out.cell 2
    have kC3 : V0.cell? ⟨w.heap.size + 1, 3, none⟩ = some (.int .i64 le) := HC.out.cell 3
    have kC4 : V0.cell? ⟨w.heap.size + 1, 4, none⟩ = some (.bool bw) := HC.out.cell 4
    have kC5 : V0.cell? ⟨w.heap.size + 1, 5, none⟩ = some (R) := HC.out.cell 5
    go_wp2_with fail
    go_ret
    exact ⟨nret (show _ = doorV s7 s5 s6 0 le by unfold doorV; simp <;> omega), EE.out⟩
  · go_enter Tryd.func7, Tryd.ntmps7
    go_wp2_with fail
    have BS := (Blk.new w #[.int .i64 (s 0), .int .i64 (s 1), .int .i64 (s 2), .int .i64 (s 3), .int .i64 (s 4), .int .i64 s5, .int .i64 s6, .int .i64 s7, .slice A n c, .int .i64 (s 9), .int .i64 (s 10), .int .i64 (s 11), .int .i64 (s 12)] 25).alloc (.cells #[.int .i64 p, .int .i64 d, .int .i64 1, .int .i64 le, .bool bw, R] 36)
    have BC := Blk.new (w.alloc (.cells #[.int .i64 (s 0), .int .i64 (s 1), .int .i64 (s 2), .int .i64 (s 3), .int .i64 (s 4), .int .i64 s5, .int .i64 s6, .int .i64 s7, .slice A n c, .int .i64 (s 9), .int .i64 (s 10), .int .i64 (s 11), .int .i64 (s 12)] 25)) #[.int .i64 p, .int .i64 d, .int .i64 1, .int .i64 le, .bool bw, R] 36
    rw [World.size_alloc] at BC
    have BE : Below w.heap.size w ((w.alloc (.cells #[.int .i64 (s 0), .int .i64 (s 1), .int .i64 (s 2), .int .i64 (s 3), .int .i64 (s 4), .int .i64 s5, .int .i64 s6, .int .i64 s7, .slice A n c, .int .i64 (s 9), .int .i64 (s 10), .int .i64 (s 11), .int .i64 (s 12)] 25)).alloc (.cells #[.int .i64 p, .int .i64 d, .int .i64 1, .int .i64 le, .bool bw, R] 36)) := ((Below.refl w.heap.size w).alloc (Nat.le_refl _) _).alloc (by simp <;> omega) _
    obtain ⟨V0, hV0⟩ : ∃ V, ((w.alloc (.cells #[.int .i64 (s 0), .int .i64 (s 1), .int .i64 (s 2), .int .i64 (s 3), .int .i64 (s 4), .int .i64 s5, .int .i64 s6, .int .i64 s7, .slice A n c, .int .i64 (s 9), .int .i64 (s 10), .int .i64 (s 11), .int .i64 (s 12)] 25)).alloc (.cells #[.int .i64 p, .int .i64 d, .int .i64 1, .int .i64 le, .bool bw, R] 36)) = V := ⟨_, rfl⟩
    rw [hV0] at BS BC BE ⊢
    have HS := Lib.hid BS
    have HC := Lib.hid BC
    have EE := Lib.hid BE
    have ne0_1 : w.heap.size ≠ w.heap.size + 1 := by omega
    have ne1_0 : w.heap.size + 1 ≠ w.heap.size := by omega
    clear hV0 BE BS BC
    have kS0 : V0.cell? ⟨w.heap.size, 0, none⟩ = some (.int .i64 (s 0)) := HS.out.cell 0
    have kS1 : V0.cell? ⟨w.heap.size, 1, none⟩ = some (.int .i64 (s 1)) := HS.out.cell 1
    have kS2 : V0.cell? ⟨w.heap.size, 2, none⟩ = some (.int .i64 (s 2)) := HS.out.cell 2
    have kS3 : V0.cell? ⟨w.heap.size, 3, none⟩ = some (.int .i64 (s 3)) := HS.out.cell 3
    have kS4 : V0.cell? ⟨w.heap.size, 4, none⟩ = some (.int .i64 (s 4)) := HS.out.cell 4
    have kS5 : V0.cell? ⟨w.heap.size, 5, none⟩ = some (.int .i64 s5) := HS.out.cell 5
    have kS6 : V0.cell? ⟨w.heap.size, 6, none⟩ = some (.int .i64 s6) := HS.out.cell 6
    have kS7 : V0.cell? ⟨w.heap.size, 7, none⟩ = some (.int .i64 s7) := HS.out.cell 7
    have kS8 : V0.cell? ⟨w.heap.size, 8, none⟩ = some (.slice A n c) := HS.out.cell 8
    have kS9 : V0.cell? ⟨w.heap.size, 9, none⟩ = some (.int .i64 (s 9)) := HS.out.cell 9
    have kS10 : V0.cell? ⟨w.heap.size, 10, none⟩ = some (.int .i64 (s 10)) := HS.out.cell 10
    have kS11 : V0.cell? ⟨w.heap.size, 11, none⟩ = some (.int .i64 (s 11)) := HS.out.cell 11
    have kS12 : V0.cell? ⟨w.heap.size, 12, none⟩ = some (.int .i64 (s 12)) := HS.out.cell 12
    have kC0 : V0.cell? ⟨w.heap.size + 1, 0, none⟩ = some (.int .i64 p) := HC.out.cell 0
    have kC1 : V0.cell? ⟨w.heap.size + 1, 1, none⟩ = some (.int .i64 d) := HC.out.cell 1
    have kC2 : V0.cell? ⟨w.heap.size + 1, 2, none⟩ = some (.int .i64 1) := HC.out.cell 2
    have kC3 : V0.cell? ⟨w.heap.size + 1, 3, none⟩ = some (.int .i64 le) := HC.out.cell 3
    have kC4 : V0.cell? ⟨w.heap.size + 1, 4, none⟩ = some (.bool bw) := HC.out.cell 4
    have kC5 : V0.cell? ⟨w.heap.size + 1, 5, none⟩ = some (R) := HC.out.cell 5
    go_wp2_with fail
    go_ret
    exact ⟨nret (show _ = doorV s7 s5 s6 1 le by unfold doorV; simp <;> omega), EE.out⟩
set_option maxRecDepth 100000 in
set_option maxHeartbeats 2000000 in
theorem rdoor_any (s : Nat → Int) (A : Option Addr) (n c : Nat) (p d mo le : Int) (bw : Bool) (R : Value) (w : World) (h5 : 1 ≤ s 5 ∧ s 5 ≤ 64) (h6 : 1 ≤ s 6 ∧ s 6 ≤ 64) (h7 : 1 ≤ s 7 ∧ s 7 ≤ 64) (m0 : 0 ≤ mo) (m1 : mo ≤ 4) (l0 : 0 ≤ le) (l1 : le ≤ 64) :
    Calls Tryd.prog 8 #[scnV s A n c, carV p d mo le bw R] w fun e w' => e = .returned (.int .i64 (doorV (s 7) (s 5) (s 6) mo le)) ∧ Below w.heap.size w w' := by
  obtain ⟨h50, h51⟩ := h5
  obtain ⟨h60, h61⟩ := h6
  obtain ⟨h70, h71⟩ := h7
  unfold scnV carV
  obtain ⟨s5, e5⟩ : ∃ a, s 5 = a := ⟨_, rfl⟩
  obtain ⟨s6, e6⟩ : ∃ a, s 6 = a := ⟨_, rfl⟩
  obtain ⟨s7, e7⟩ : ∃ a, s 7 = a := ⟨_, rfl⟩
  rw [e5] at h50 h51 ⊢
  rw [e6] at h60 h61 ⊢
  rw [e7] at h70 h71 ⊢
  clear e5 e6 e7
  rcases (show mo = 2 ∨ mo = 3 ∨ mo = 4 ∨ mo = 0 ∨ mo = 1 by omega) with rfl | rfl | rfl | rfl | rfl
  · go_enter Tryd.func8, Tryd.ntmps8
    go_wp2_with fail
    have BS := (Blk.new w #[.int .i64 (s 0), .int .i64 (s 1), .int .i64 (s 2), .int .i64 (s 3), .int .i64 (s 4), .int .i64 s5, .int .i64 s6, .int .i64 s7, .slice A n c, .int .i64 (s 9), .int .i64 (s 10), .int .i64 (s 11), .int .i64 (s 12)] 25).alloc (.cells #[.int .i64 p, .int .i64 d, .int .i64 2, .int .i64 le, .bool bw, R] 36)
    have BC := Blk.new (w.alloc (.cells #[.int .i64 (s 0), .int .i64 (s 1), .int .i64 (s 2), .int .i64 (s 3), .int .i64 (s 4), .int .i64 s5, .int .i64 s6, .int .i64 s7, .slice A n c, .int .i64 (s 9), .int .i64 (s 10), .int .i64 (s 11), .int .i64 (s 12)] 25)) #[.int .i64 p, .int .i64 d, .int .i64 2, .int .i64 le, .bool bw, R] 36
    rw [World.size_alloc] at BC
    have BE : Below w.heap.size w ((w.alloc (.cells #[.int .i64 (s 0), .int .i64 (s 1), .int .i64 (s 2), .int .i64 (s 3), .int .i64 (s 4), .int .i64 s5, .int .i64 s6, .int .i64 s7, .slice A n c, .int .i64 (s 9), .int .i64 (s 10), .int .i64 (s 11), .int .i64 (s 12)] 25)).alloc (.cells #[.int .i64 p, .int .i64 d, .int .i64 2, .int .i64 le, .bool bw, R] 36)) := ((Below.refl w.heap.size w).alloc (Nat.le_refl _) _).alloc (by simp <;> omega) _
    obtain ⟨V0, hV0⟩ : ∃ V, ((w.alloc (.cells #[.int .i64 (s 0), .int .i64 (s 1), .int .i64 (s 2), .int .i64 (s 3), .int .i64 (s 4), .int .i64 s5, .int .i64 s6, .int .i64 s7, .slice A n c, .int .i64 (s 9), .int .i64 (s 10), .int .i64 (s 11), .int .i64 (s 12)] 25)).alloc (.cells #[.int .i64 p, .int .i64 d, .int .i64 2, .int .i64 le, .bool bw, R] 36)) = V := ⟨_, rfl⟩
    rw [hV0] at BS BC BE ⊢
    have HS := Lib.hid BS
    have HC := Lib.hid BC
    have EE := Lib.hid BE
    have ne0_1 : w.heap.size ≠ w.heap.size + 1 := by omega
    have ne1_0 : w.heap.size + 1 ≠ w.heap.size := by omega
    clear hV0 BE BS BC
    have kS0 : V0.cell? ⟨w.heap.size, 0, none⟩ = some (.int .i64 (s 0)) := HS.out.cell 0
    have kS1 : V0.cell? ⟨w.heap.size, 1, none⟩ = some (.int .i64 (s 1)) := HS.out.cell 1
    have kS2 : V0.cell? ⟨w.heap.size, 2, none⟩ = some (.int .i64 (s 2)) := HS.out.cell 2
    have kS3 : V0.cell? ⟨w.heap.size, 3, none⟩ = some (.int .i64 (s 3)) := HS.out.cell 3
    have kS4 : V0.cell? ⟨w.heap.size, 4, none⟩ = some (.int .i64 (s 4)) := HS.out.cell 4
    have kS5 : V0.cell? ⟨w.heap.size, 5, none⟩ = some (.int .i64 s5) := HS.out.cell 5
    have kS6 : V0.cell? ⟨w.heap.size, 6, none⟩ = some (.int .i64 s6) := HS.out.cell 6
    have kS7 : V0.cell? ⟨w.heap.size, 7, none⟩ = some (.int .i64 s7) := HS.out.cell 7
    have kS8 : V0.cell? ⟨w.heap.size, 8, none⟩ = some (.slice A n c) := HS.out.cell 8
    have kS9 : V0.cell? ⟨w.heap.size, 9, none⟩ = some (.int .i64 (s 9)) := HS.out.cell 9
    have kS10 : V0.cell? ⟨w.heap.size, 10, none⟩ = some (.int .i64 (s 10)) := HS.out.cell 10
    have kS11 : V0.cell? ⟨w.heap.size, 11, none⟩ = some (.int .i64 (s 11)) := HS.out.cell 11
    have kS12 : V0.cell? ⟨w.heap.size, 12, none⟩ = some (.int .i64 (s 12)) := HS.out.cell 12
    have kC0 : V0.cell? ⟨w.heap.size + 1, 0, none⟩ = some (.int .i64 p) := HC.out.cell 0
    have kC1 : V0.cell? ⟨w.heap.size + 1, 1, none⟩ = some (.int .i64 d) := HC.out.cell 1
    have kC2 : V0.cell? ⟨w.heap.size + 1, 2, none⟩ = some (.int .i64 2) := HC.out.cell 2
    have kC3 : V0.cell? ⟨w.heap.size + 1, 3, none⟩ = some (.int .i64 le) := HC.out.cell 3
    have kC4 : V0.cell? ⟨w.heap.size + 1, 4, none⟩ = some (.bool bw) := HC.out.cell 4
    have kC5 : V0.cell? ⟨w.heap.size + 1, 5, none⟩ = some (R) := HC.out.cell 5
    go_wp2_with fail
    go_ret
    exact ⟨nret (show _ = doorV s7 s5 s6 2 le by unfold doorV; simp <;> omega), EE.out⟩
  · go_enter Tryd.func8, Tryd.ntmps8
    go_wp2_with fail
    have BS := (Blk.new w #[.int .i64 (s 0), .int .i64 (s 1), .int .i64 (s 2), .int .i64 (s 3), .int .i64 (s 4), .int .i64 s5, .int .i64 s6, .int .i64 s7, .slice A n c, .int .i64 (s 9), .int .i64 (s 10), .int .i64 (s 11), .int .i64 (s 12)] 25).alloc (.cells #[.int .i64 p, .int .i64 d, .int .i64 3, .int .i64 le, .bool bw, R] 36)
    have BC := Blk.new (w.alloc (.cells #[.int .i64 (s 0), .int .i64 (s 1), .int .i64 (s 2), .int .i64 (s 3), .int .i64 (s 4), .int .i64 s5, .int .i64 s6, .int .i64 s7, .slice A n c, .int .i64 (s 9), .int .i64 (s 10), .int .i64 (s 11), .int .i64 (s 12)] 25)) #[.int .i64 p, .int .i64 d, .int .i64 3, .int .i64 le, .bool bw, R] 36
    rw [World.size_alloc] at BC
    have BE : Below w.heap.size w ((w.alloc (.cells #[.int .i64 (s 0), .int .i64 (s 1), .int .i64 (s 2), .int .i64 (s 3), .int .i64 (s 4), .int .i64 s5, .int .i64 s6, .int .i64 s7, .slice A n c, .int .i64 (s 9), .int .i64 (s 10), .int .i64 (s 11), .int .i64 (s 12)] 25)).alloc (.cells #[.int .i64 p, .int .i64 d, .int .i64 3, .int .i64 le, .bool bw, R] 36)) := ((Below.refl w.heap.size w).alloc (Nat.le_refl _) _).alloc (by simp <;> omega) _
    obtain ⟨V0, hV0⟩ : ∃ V, ((w.alloc (.cells #[.int .i64 (s 0), .int .i64 (s 1), .int .i64 (s 2), .int .i64 (s 3), .int .i64 (s 4), .int .i64 s5, .int .i64 s6, .int .i64 s7, .slice A n c, .int .i64 (s 9), .int .i64 (s 10), .int .i64 (s 11), .int .i64 (s 12)] 25)).alloc (.cells #[.int .i64 p, .int .i64 d, .int .i64 3, .int .i64 le, .bool bw, R] 36)) = V := ⟨_, rfl⟩
    rw [hV0] at BS BC BE ⊢
    have HS := Lib.hid BS
    have HC := Lib.hid BC
    have EE := Lib.hid BE
    have ne0_1 : w.heap.size ≠ w.heap.size + 1 := by omega
    have ne1_0 : w.heap.size + 1 ≠ w.heap.size := by omega
    clear hV0 BE BS BC
    have kS0 : V0.cell? ⟨w.heap.size, 0, none⟩ = some (.int .i64 (s 0)) := HS.out.cell 0
    have kS1 : V0.cell? ⟨w.heap.size, 1, none⟩ = some (.int .i64 (s 1)) := HS.out.cell 1
    have kS2 : V0.cell? ⟨w.heap.size, 2, none⟩ = some (.int .i64 (s 2)) := HS.out.cell 2
    have kS3 : V0.cell? ⟨w.heap.size, 3, none⟩ = some (.int .i64 (s 3)) := HS.out.cell 3
    have kS4 : V0.cell? ⟨w.heap.size, 4, none⟩ = some (.int .i64 (s 4)) := HS.out.cell 4
    have kS5 : V0.cell? ⟨w.heap.size, 5, none⟩ = some (.int .i64 s5) := HS.out.cell 5
    have kS6 : V0.cell? ⟨w.heap.size, 6, none⟩ = some (.int .i64 s6) := HS.out.cell 6
    have kS7 : V0.cell? ⟨w.heap.size, 7, none⟩ = some (.int .i64 s7) := HS.out.cell 7
    have kS8 : V0.cell? ⟨w.heap.size, 8, none⟩ = some (.slice A n c) := HS.out.cell 8
    have kS9 : V0.cell? ⟨w.heap.size, 9, none⟩ = some (.int .i64 (s 9)) := HS.out.cell 9
    have kS10 : V0.cell? ⟨w.heap.size, 10, none⟩ = some (.int .i64 (s 10)) := HS.out.cell 10
    have kS11 : V0.cell? ⟨w.heap.size, 11, none⟩ = some (.int .i64 (s 11)) := HS.out.cell 11
    have kS12 : V0.cell? ⟨w.heap.size, 12, none⟩ = some (.int .i64 (s 12)) := HS.out.cell 12
    have kC0 : V0.cell? ⟨w.heap.size + 1, 0, none⟩ = some (.int .i64 p) := HC.out.cell 0
    have kC1 : V0.cell? ⟨w.heap.size + 1, 1, none⟩ = some (.int .i64 d) := HC.out.cell 1
    have kC2 : V0.cell? ⟨w.heap.size + 1, 2, none⟩ = some (.int .i64 3) := HC.out.cell 2
    have kC3 : V0.cell? ⟨w.heap.size + 1, 3, none⟩ = some (.int .i64 le) := HC.out.cell 3
    have kC4 : V0.cell? ⟨w.heap.size + 1, 4, none⟩ = some (.bool bw) := HC.out.cell 4
    have kC5 : V0.cell? ⟨w.heap.size + 1, 5, none⟩ = some (R) := HC.out.cell 5
    go_wp2_with fail
    go_ret
    exact ⟨nret (show _ = doorV s7 s5 s6 3 le by unfold doorV; simp <;> omega), EE.out⟩
  · go_enter Tryd.func8, Tryd.ntmps8
    go_wp2_with fail
    have BS := (Blk.new w #[.int .i64 (s 0), .int .i64 (s 1), .int .i64 (s 2), .int .i64 (s 3), .int .i64 (s 4), .int .i64 s5, .int .i64 s6, .int .i64 s7, .slice A n c, .int .i64 (s 9), .int .i64 (s 10), .int .i64 (s 11), .int .i64 (s 12)] 25).alloc (.cells #[.int .i64 p, .int .i64 d, .int .i64 4, .int .i64 le, .bool bw, R] 36)
    have BC := Blk.new (w.alloc (.cells #[.int .i64 (s 0), .int .i64 (s 1), .int .i64 (s 2), .int .i64 (s 3), .int .i64 (s 4), .int .i64 s5, .int .i64 s6, .int .i64 s7, .slice A n c, .int .i64 (s 9), .int .i64 (s 10), .int .i64 (s 11), .int .i64 (s 12)] 25)) #[.int .i64 p, .int .i64 d, .int .i64 4, .int .i64 le, .bool bw, R] 36
    rw [World.size_alloc] at BC
    have BE : Below w.heap.size w ((w.alloc (.cells #[.int .i64 (s 0), .int .i64 (s 1), .int .i64 (s 2), .int .i64 (s 3), .int .i64 (s 4), .int .i64 s5, .int .i64 s6, .int .i64 s7, .slice A n c, .int .i64 (s 9), .int .i64 (s 10), .int .i64 (s 11), .int .i64 (s 12)] 25)).alloc (.cells #[.int .i64 p, .int .i64 d, .int .i64 4, .int .i64 le, .bool bw, R] 36)) := ((Below.refl w.heap.size w).alloc (Nat.le_refl _) _).alloc (by simp <;> omega) _
    obtain ⟨V0, hV0⟩ : ∃ V, ((w.alloc (.cells #[.int .i64 (s 0), .int .i64 (s 1), .int .i64 (s 2), .int .i64 (s 3), .int .i64 (s 4), .int .i64 s5, .int .i64 s6, .int .i64 s7, .slice A n c, .int .i64 (s 9), .int .i64 (s 10), .int .i64 (s 11), .int .i64 (s 12)] 25)).alloc (.cells #[.int .i64 p, .int .i64 d, .int .i64 4, .int .i64 le, .bool bw, R] 36)) = V := ⟨_, rfl⟩
    rw [hV0] at BS BC BE ⊢
    have HS := Lib.hid BS
    have HC := Lib.hid BC
    have EE := Lib.hid BE
    have ne0_1 : w.heap.size ≠ w.heap.size + 1 := by omega
    have ne1_0 : w.heap.size + 1 ≠ w.heap.size := by omega
    clear hV0 BE BS BC
    have kS0 : V0.cell? ⟨w.heap.size, 0, none⟩ = some (.int .i64 (s 0)) := HS.out.cell 0
    have kS1 : V0.cell? ⟨w.heap.size, 1, none⟩ = some (.int .i64 (s 1)) := HS.out.cell 1
    have kS2 : V0.cell? ⟨w.heap.size, 2, none⟩ = some (.int .i64 (s 2)) := HS.out.cell 2
    have kS3 : V0.cell? ⟨w.heap.size, 3, none⟩ = some (.int .i64 (s 3)) := HS.out.cell 3
    have kS4 : V0.cell? ⟨w.heap.size, 4, none⟩ = some (.int .i64 (s 4)) := HS.out.cell 4
    have kS5 : V0.cell? ⟨w.heap.size, 5, none⟩ = some (.int .i64 s5) := HS.out.cell 5
    have kS6 : V0.cell? ⟨w.heap.size, 6, none⟩ = some (.int .i64 s6) := HS.out.cell 6
    have kS7 : V0.cell? ⟨w.heap.size, 7, none⟩ = some (.int .i64 s7) := HS.out.cell 7
    have kS8 : V0.cell? ⟨w.heap.size, 8, none⟩ = some (.slice A n c) := HS.out.cell 8
    have kS9 : V0.cell? ⟨w.heap.size, 9, none⟩ = some (.int .i64 (s 9)) := HS.out.cell 9
    have kS10 : V0.cell? ⟨w.heap.size, 10, none⟩ = some (.int .i64 (s 10)) := HS.out.cell 10
    have kS11 : V0.cell? ⟨w.heap.size, 11, none⟩ = some (.int .i64 (s 11)) := HS.out.cell 11
    have kS12 : V0.cell? ⟨w.heap.size, 12, none⟩ = some (.int .i64 (s 12)) := HS.out.cell 12
    have kC0 : V0.cell? ⟨w.heap.size + 1, 0, none⟩ = some (.int .i64 p) := HC.out.cell 0
    have kC1 : V0.cell? ⟨w.heap.size + 1, 1, none⟩ = some (.int .i64 d) := HC.out.cell 1
    have kC2 : V0.cell? ⟨w.heap.size + 1, 2, none⟩ = some (.int .i64 4) := HC.out.cell 2
    have kC3 : V0.cell? ⟨w.heap.size + 1, 3, none⟩ = some (.int .i64 le) := HC.out.cell 3
    have kC4 : V0.cell? ⟨w.heap.size + 1, 4, none⟩ = some (.bool bw) := HC.out.cell 4
    have kC5 : V0.cell? ⟨w.heap.size + 1, 5, none⟩ = some (R) := HC.out.cell 5
    go_wp2_with fail
    go_ret
    exact ⟨nret (show _ = doorV s7 s5 s6 4 le by unfold doorV; simp <;> omega), EE.out⟩
  · go_enter Tryd.func8, Tryd.ntmps8
    go_wp2_with fail
    have BS := (Blk.new w #[.int .i64 (s 0), .int .i64 (s 1), .int .i64 (s 2), .int .i64 (s 3), .int .i64 (s 4), .int .i64 s5, .int .i64 s6, .int .i64 s7, .slice A n c, .int .i64 (s 9), .int .i64 (s 10), .int .i64 (s 11), .int .i64 (s 12)] 25).alloc (.cells #[.int .i64 p, .int .i64 d, .int .i64 0, .int .i64 le, .bool bw, R] 36)
    have BC := Blk.new (w.alloc (.cells #[.int .i64 (s 0), .int .i64 (s 1), .int .i64 (s 2), .int .i64 (s 3), .int .i64 (s 4), .int .i64 s5, .int .i64 s6, .int .i64 s7, .slice A n c, .int .i64 (s 9), .int .i64 (s 10), .int .i64 (s 11), .int .i64 (s 12)] 25)) #[.int .i64 p, .int .i64 d, .int .i64 0, .int .i64 le, .bool bw, R] 36
    rw [World.size_alloc] at BC
    have BE : Below w.heap.size w ((w.alloc (.cells #[.int .i64 (s 0), .int .i64 (s 1), .int .i64 (s 2), .int .i64 (s 3), .int .i64 (s 4), .int .i64 s5, .int .i64 s6, .int .i64 s7, .slice A n c, .int .i64 (s 9), .int .i64 (s 10), .int .i64 (s 11), .int .i64 (s 12)] 25)).alloc (.cells #[.int .i64 p, .int .i64 d, .int .i64 0, .int .i64 le, .bool bw, R] 36)) := ((Below.refl w.heap.size w).alloc (Nat.le_refl _) _).alloc (by simp <;> omega) _
    obtain ⟨V0, hV0⟩ : ∃ V, ((w.alloc (.cells #[.int .i64 (s 0), .int .i64 (s 1), .int .i64 (s 2), .int .i64 (s 3), .int .i64 (s 4), .int .i64 s5, .int .i64 s6, .int .i64 s7, .slice A n c, .int .i64 (s 9), .int .i64 (s 10), .int .i64 (s 11), .int .i64 (s 12)] 25)).alloc (.cells #[.int .i64 p, .int .i64 d, .int .i64 0, .int .i64 le, .bool bw, R] 36)) = V := ⟨_, rfl⟩
    rw [hV0] at BS BC BE ⊢
    have HS := Lib.hid BS
    have HC := Lib.hid BC
    have EE := Lib.hid BE
    have ne0_1 : w.heap.size ≠ w.heap.size + 1 := by omega
    have ne1_0 : w.heap.size + 1 ≠ w.heap.size := by omega
    clear hV0 BE BS BC
    have kS0 : V0.cell? ⟨w.heap.size, 0, none⟩ = some (.int .i64 (s 0)) := HS.out.cell 0
    have kS1 : V0.cell? ⟨w.heap.size, 1, none⟩ = some (.int .i64 (s 1)) := HS.out.cell 1
    have kS2 : V0.cell? ⟨w.heap.size, 2, none⟩ = some (.int .i64 (s 2)) := HS.out.cell 2
    have kS3 : V0.cell? ⟨w.heap.size, 3, none⟩ = some (.int .i64 (s 3)) := HS.out.cell 3
    have kS4 : V0.cell? ⟨w.heap.size, 4, none⟩ = some (.int .i64 (s 4)) := HS.out.cell 4
    have kS5 : V0.cell? ⟨w.heap.size, 5, none⟩ = some (.int .i64 s5) := HS.out.cell 5
    have kS6 : V0.cell? ⟨w.heap.size, 6, none⟩ = some (.int .i64 s6) := HS.out.cell 6
    have kS7 : V0.cell? ⟨w.heap.size, 7, none⟩ = some (.int .i64 s7) := HS.out.cell 7
    have kS8 : V0.cell? ⟨w.heap.size, 8, none⟩ = some (.slice A n c) := HS.out.cell 8
    have kS9 : V0.cell? ⟨w.heap.size, 9, none⟩ = some (.int .i64 (s 9)) := HS.out.cell 9
    have kS10 : V0.cell? ⟨w.heap.size, 10, none⟩ = some (.int .i64 (s 10)) := HS.out.cell 10
    have kS11 : V0.cell? ⟨w.heap.size, 11, none⟩ = some (.int .i64 (s 11)) := HS.out.cell 11
    have kS12 : V0.cell? ⟨w.heap.size, 12, none⟩ = some (.int .i64 (s 12)) := HS.out.cell 12
    have kC0 : V0.cell? ⟨w.heap.size + 1, 0, none⟩ = some (.int .i64 p) := HC.out.cell 0
    have kC1 : V0.cell? ⟨w.heap.size + 1, 1, none⟩ = some (.int .i64 d) := HC.out.cell 1
    have kC2 : V0.cell? ⟨w.heap.size + 1, 2, none⟩ = some (.int .i64 0) := HC.out.cell 2
    have kC3 : V0.cell? ⟨w.heap.size + 1, 3, none⟩ = some (.int .i64 le) := HC.out.cell 3
    have kC4 : V0.cell? ⟨w.heap.size + 1, 4, none⟩ = some (.bool bw) := HC.out.cell 4
    have kC5 : V0.cell? ⟨w.heap.size + 1, 5, none⟩ = some (R) := HC.out.cell 5
    go_wp2_with fail
    go_ret
    exact ⟨nret (show _ = doorV s7 s5 s6 0 le by unfold doorV; simp <;> omega), EE.out⟩
  · go_enter Tryd.func8, Tryd.ntmps8
    go_wp2_with fail
    have BS := (Blk.new w #[.int .i64 (s 0), .int .i64 (s 1), .int .i64 (s 2), .int .i64 (s 3), .int .i64 (s 4), .int .i64 s5, .int .i64 s6, .int .i64 s7, .slice A n c, .int .i64 (s 9), .int .i64 (s 10), .int .i64 (s 11), .int .i64 (s 12)] 25).alloc (.cells #[.int .i64 p, .int .i64 d, .int .i64 1, .int .i64 le, .bool bw, R] 36)
    have BC := Blk.new (w.alloc (.cells #[.int .i64 (s 0), .int .i64 (s 1), .int .i64 (s 2), .int .i64 (s 3), .int .i64 (s 4), .int .i64 s5, .int .i64 s6, .int .i64 s7, .slice A n c, .int .i64 (s 9), .int .i64 (s 10), .int .i64 (s 11), .int .i64 (s 12)] 25)) #[.int .i64 p, .int .i64 d, .int .i64 1, .int .i64 le, .bool bw, R] 36
    rw [World.size_alloc] at BC
    have BE : Below w.heap.size w ((w.alloc (.cells #[.int .i64 (s 0), .int .i64 (s 1), .int .i64 (s 2), .int .i64 (s 3), .int .i64 (s 4), .int .i64 s5, .int .i64 s6, .int .i64 s7, .slice A n c, .int .i64 (s 9), .int .i64 (s 10), .int .i64 (s 11), .int .i64 (s 12)] 25)).alloc (.cells #[.int .i64 p, .int .i64 d, .int .i64 1, .int .i64 le, .bool bw, R] 36)) := ((Below.refl w.heap.size w).alloc (Nat.le_refl _) _).alloc (by simp <;> omega) _
    obtain ⟨V0, hV0⟩ : ∃ V, ((w.alloc (.cells #[.int .i64 (s 0), .int .i64 (s 1), .int .i64 (s 2), .int .i64 (s 3), .int .i64 (s 4), .int .i64 s5, .int .i64 s6, .int .i64 s7, .slice A n c, .int .i64 (s 9), .int .i64 (s 10), .int .i64 (s 11), .int .i64 (s 12)] 25)).alloc (.cells #[.int .i64 p, .int .i64 d, .int .i64 1, .int .i64 le, .bool bw, R] 36)) = V := ⟨_, rfl⟩
    rw [hV0] at BS BC BE ⊢
    have HS := Lib.hid BS
    have HC := Lib.hid BC
    have EE := Lib.hid BE
    have ne0_1 : w.heap.size ≠ w.heap.size + 1 := by omega
    have ne1_0 : w.heap.size + 1 ≠ w.heap.size := by omega
    clear hV0 BE BS BC
    have kS0 : V0.cell? ⟨w.heap.size, 0, none⟩ = some (.int .i64 (s 0)) := HS.out.cell 0
    have kS1 : V0.cell? ⟨w.heap.size, 1, none⟩ = some (.int .i64 (s 1)) := HS.out.cell 1
    have kS2 : V0.cell? ⟨w.heap.size, 2, none⟩ = some (.int .i64 (s 2)) := HS.out.cell 2
    have kS3 : V0.cell? ⟨w.heap.size, 3, none⟩ = some (.int .i64 (s 3)) := HS.out.cell 3
    have kS4 : V0.cell? ⟨w.heap.size, 4, none⟩ = some (.int .i64 (s 4)) := HS.out.cell 4
    have kS5 : V0.cell? ⟨w.heap.size, 5, none⟩ = some (.int .i64 s5) := HS.out.cell 5
    have kS6 : V0.cell? ⟨w.heap.size, 6, none⟩ = some (.int .i64 s6) := HS.out.cell 6
    have kS7 : V0.cell? ⟨w.heap.size, 7, none⟩ = some (.int .i64 s7) := HS.out.cell 7
    have kS8 : V0.cell? ⟨w.heap.size, 8, none⟩ = some (.slice A n c) := HS.out.cell 8
    have kS9 : V0.cell? ⟨w.heap.size, 9, none⟩ = some (.int .i64 (s 9)) := HS.out.cell 9
    have kS10 : V0.cell? ⟨w.heap.size, 10, none⟩ = some (.int .i64 (s 10)) := HS.out.cell 10
    have kS11 : V0.cell? ⟨w.heap.size, 11, none⟩ = some (.int .i64 (s 11)) := HS.out.cell 11
    have kS12 : V0.cell? ⟨w.heap.size, 12, none⟩ = some (.int .i64 (s 12)) := HS.out.cell 12
    have kC0 : V0.cell? ⟨w.heap.size + 1, 0, none⟩ = some (.int .i64 p) := HC.out.cell 0
    have kC1 : V0.cell? ⟨w.heap.size + 1, 1, none⟩ = some (.int .i64 d) := HC.out.cell 1
    have kC2 : V0.cell? ⟨w.heap.size + 1, 2, none⟩ = some (.int .i64 1) := HC.out.cell 2
    have kC3 : V0.cell? ⟨w.heap.size + 1, 3, none⟩ = some (.int .i64 le) := HC.out.cell 3
    have kC4 : V0.cell? ⟨w.heap.size + 1, 4, none⟩ = some (.bool bw) := HC.out.cell 4
    have kC5 : V0.cell? ⟨w.heap.size + 1, 5, none⟩ = some (R) := HC.out.cell 5
    go_wp2_with fail
    go_ret
    exact ⟨nret (show _ = doorV s7 s5 s6 1 le by unfold doorV; simp <;> omega), EE.out⟩
theorem rfar_any (a b : Int) (w : World) (h0 : 0 ≤ a) (h1 : a ≤ 1073741824) (h2 : 0 ≤ b) (h3 : b ≤ 1073741824) :
    Calls Tryd.prog 33 #[.int .i64 a, .int .i64 b] w fun e w' => e = .returned (.int .i64 (farV a b)) ∧ w = w' := by
  by_cases h : a < b
  · have e : farV a b = b - a := by unfold farV; rw [if_pos (by omega)]
    rw [e]; clear e
    go_enter Tryd.func33, Tryd.ntmps33
    go_wp2_with fail
    go_ret
    exact ⟨rfl, rfl⟩
  · have e : farV a b = a - b := by unfold farV; split <;> omega
    rw [e]; clear e
    go_enter Tryd.func33, Tryd.ntmps33
    go_wp2_with fail
    go_ret
    exact ⟨rfl, rfl⟩
theorem far_b (a b : Int) (w : World) (h0 : 0 ≤ a) (h1 : a ≤ 1048576) (h2 : 0 ≤ b) (h3 : b ≤ 1048576) :
    Calls Tryd.prog 27 #[.int .i64 a, .int .i64 b] w fun e w' => e = .returned (.int .i64 (farV a b)) ∧ Below w.heap.size w w' :=
  (far_any a b w h0 (by omega) h2 (by omega)).mono fun e w' ⟨h1, h2⟩ => ⟨h1, h2 ▸ Below.refl _ _⟩
theorem rfar_b (a b : Int) (w : World) (h0 : 0 ≤ a) (h1 : a ≤ 1048576) (h2 : 0 ≤ b) (h3 : b ≤ 1048576) :
    Calls Tryd.prog 33 #[.int .i64 a, .int .i64 b] w fun e w' => e = .returned (.int .i64 (farV a b)) ∧ Below w.heap.size w w' :=
  (rfar_any a b w h0 (by omega) h2 (by omega)).mono fun e w' ⟨h1, h2⟩ => ⟨h1, h2 ▸ Below.refl _ _⟩
theorem pnext_b (p g q r d : Int) (w : World) (hg : 1 ≤ g) (hg' : g ≤ 1048576) (hp : 0 ≤ p) (hp' : p ≤ 1048576) (hr : 0 ≤ r) (hr' : r < g) (e : p = q * g + r) :
    Calls Tryd.prog 24 #[.int .i64 p, .int .i64 g, .int .i64 d] w fun e w' => e = .returned (.tuple #[.int .i64 (nxT g r d), .int .i64 (nxF q r d)]) ∧ Below w.heap.size w w' :=
  (pnext_any p g q r d w hg hg' hp hp' hr hr' e).mono fun e w' ⟨h1, k, h2⟩ => ⟨h1, h2 ▸ below_drewN (Below.refl _ _) k⟩
theorem set_empty (G : Nat → Bool) : (((wordX G : Nat) : Int) == 0 && ((wordY G : Nat) : Int) == 0) = decide ((itL G 128).length = 0) := by
  rw [Bool.eq_iff_iff]
  simp only [Bool.and_eq_true, beq_iff_eq, decide_eq_true_eq]
  constructor
  · rintro ⟨h0, h1⟩
    rw [itL_skip G 0 128 (by omega) (fun j _ hj => none_xy G (by omega) (by omega) j hj)]; rfl
  · intro h
    have hn : ∀ j, j < 128 → G j = false := fun j hj => by
      cases hb : G j
      · rfl
      · obtain ⟨i, hi, _⟩ := itL_has G j hj hb; omega
    have e : G = G := rfl
    have hz : setV G = setV (fun _ => false) := setV_congr fun j hj => hn j hj
    unfold setV at hz
    rw [word_none.1, word_none.2] at hz
    simpa using hz
def sgV (d fl dir u : Int) (F : Nat → Bool) : Bool := !(u == -d) && ((dir == d) || decide ((itL (byF F fl d) 128).length = 0))
set_option maxRecDepth 100000 in
set_option maxHeartbeats 2000000 in
theorem straight_any (p d mo le : Int) (bw : Bool) (R : Value) (F : Nat → Bool) (fl dir u : Int) (w : World) (d0 : -1 ≤ d) (d1 : d ≤ 1) :
    Calls Tryd.prog 26 #[carV p d mo le bw R, setV F, .int .i64 fl, .int .i64 dir, .int .i64 u] w fun e w' => e = .returned (.bool (sgV d fl dir u F)) ∧ Below w.heap.size w w' := by
  have KB := fun w => beyond_any F fl d w
  have KE := set_empty (byF F fl d)
  have S0 : u = -d → sgV d fl dir u F = false := fun h => by unfold sgV; simp [h]
  have S1 : ¬ u = -d → dir = d → sgV d fl dir u F = true := fun h h1 => by unfold sgV; simp [h, h1]
  have S2 : ¬ u = -d → ¬ dir = d → sgV d fl dir u F = decide ((itL (byF F fl d) 128).length = 0) := fun h h1 => by unfold sgV; rw [beq_eq_false_iff_ne.2 h, beq_eq_false_iff_ne.2 h1]; rfl
  obtain ⟨sg, hsg⟩ : ∃ b, sgV d fl dir u F = b := ⟨_, rfl⟩
  rw [hsg] at S0 S1 S2 ⊢
  rw [← KE] at S2
  unfold setV carV at *
  obtain ⟨x, hx⟩ : ∃ x, wordX F = x := ⟨_, rfl⟩
  obtain ⟨y, hy⟩ : ∃ y, wordY F = y := ⟨_, rfl⟩
  obtain ⟨a, ha⟩ : ∃ x, wordX (byF F fl d) = x := ⟨_, rfl⟩
  obtain ⟨b, hb⟩ : ∃ y, wordY (byF F fl d) = y := ⟨_, rfl⟩
  rw [hx, hy, ha, hb] at KB
  rw [ha, hb] at S2
  rw [hx, hy]
  have KBh := Lib.hid KB
  have CM : ∀ w : World, (Op.equalIn 10000 40 (.agg #[.int .u64 (a : Int), .int .u64 (b : Int)]) (.agg #[.int .u64 0, .int .u64 0])).run Tryd.prog w = .ok (((a : Int) == 0) && ((b : Int) == 0)) w := fun w => sset_cmp a b 0 0 w
  have CMh := Lib.hid CM
  clear KB KE hx hy ha hb hsg CM
  by_cases hu : u = -d
  · obtain rfl := S0 hu
    have hu' : (u == -d) = true := by simp [hu]
    have hq : u = -d := hu
    clear S0 S1 S2 hu
    subst hq
    go_enter Tryd.func26, Tryd.ntmps26
    go_wp2_with fail
    have BC := (Blk.new w #[.int .i64 p, .int .i64 d, .int .i64 mo, .int .i64 le, .bool bw, R] 36).alloc (.cells #[.int .u64 x, .int .u64 y] 40)
    have BT := Blk.new (w.alloc (.cells #[.int .i64 p, .int .i64 d, .int .i64 mo, .int .i64 le, .bool bw, R] 36)) #[.int .u64 x, .int .u64 y] 40
    rw [World.size_alloc] at BT
    have BE : Below w.heap.size w ((w.alloc (.cells #[.int .i64 p, .int .i64 d, .int .i64 mo, .int .i64 le, .bool bw, R] 36)).alloc (.cells #[.int .u64 x, .int .u64 y] 40)) := ((Below.refl w.heap.size w).alloc (Nat.le_refl _) _).alloc (by simp <;> omega) _
    obtain ⟨V0, hV0⟩ : ∃ V, ((w.alloc (.cells #[.int .i64 p, .int .i64 d, .int .i64 mo, .int .i64 le, .bool bw, R] 36)).alloc (.cells #[.int .u64 x, .int .u64 y] 40)) = V := ⟨_, rfl⟩
    rw [hV0] at BC BT BE ⊢
    have HC := Lib.hid BC
    have HT := Lib.hid BT
    have EE := Lib.hid BE
    have ne0_1 : w.heap.size ≠ w.heap.size + 1 := by omega
    have ne1_0 : w.heap.size + 1 ≠ w.heap.size := by omega
    clear hV0 BE BC BT
    have kC0 : V0.cell? ⟨w.heap.size, 0, none⟩ = some (.int .i64 p) := HC.out.cell 0
    have kC1 : V0.cell? ⟨w.heap.size, 1, none⟩ = some (.int .i64 d) := HC.out.cell 1
    have kC2 : V0.cell? ⟨w.heap.size, 2, none⟩ = some (.int .i64 mo) := HC.out.cell 2
    have kC3 : V0.cell? ⟨w.heap.size, 3, none⟩ = some (.int .i64 le) := HC.out.cell 3
    have kC4 : V0.cell? ⟨w.heap.size, 4, none⟩ = some (.bool bw) := HC.out.cell 4
    have kC5 : V0.cell? ⟨w.heap.size, 5, none⟩ = some (R) := HC.out.cell 5
    have kT0 : V0.cell? ⟨w.heap.size + 1, 0, none⟩ = some (.int .u64 x) := HT.out.cell 0
    have kT1 : V0.cell? ⟨w.heap.size + 1, 1, none⟩ = some (.int .u64 y) := HT.out.cell 1
    go_wp2_with fail
    go_ret
    exact ⟨rfl, EE.out⟩
  · by_cases hd : dir = d
    · obtain rfl := S1 hu hd
      subst hd
      clear S0 S1 S2
      go_enter Tryd.func26, Tryd.ntmps26
      go_wp2_with fail
      have BC := (Blk.new w #[.int .i64 p, .int .i64 dir, .int .i64 mo, .int .i64 le, .bool bw, R] 36).alloc (.cells #[.int .u64 x, .int .u64 y] 40)
      have BT := Blk.new (w.alloc (.cells #[.int .i64 p, .int .i64 dir, .int .i64 mo, .int .i64 le, .bool bw, R] 36)) #[.int .u64 x, .int .u64 y] 40
      rw [World.size_alloc] at BT
      have BE : Below w.heap.size w ((w.alloc (.cells #[.int .i64 p, .int .i64 dir, .int .i64 mo, .int .i64 le, .bool bw, R] 36)).alloc (.cells #[.int .u64 x, .int .u64 y] 40)) := ((Below.refl w.heap.size w).alloc (Nat.le_refl _) _).alloc (by simp <;> omega) _
      obtain ⟨V0, hV0⟩ : ∃ V, ((w.alloc (.cells #[.int .i64 p, .int .i64 dir, .int .i64 mo, .int .i64 le, .bool bw, R] 36)).alloc (.cells #[.int .u64 x, .int .u64 y] 40)) = V := ⟨_, rfl⟩
      rw [hV0] at BC BT BE ⊢
      have HC := Lib.hid BC
      have HT := Lib.hid BT
      have EE := Lib.hid BE
      have ne0_1 : w.heap.size ≠ w.heap.size + 1 := by omega
      have ne1_0 : w.heap.size + 1 ≠ w.heap.size := by omega
      clear hV0 BE BC BT
      have kC0 : V0.cell? ⟨w.heap.size, 0, none⟩ = some (.int .i64 p) := HC.out.cell 0
      have kC1 : V0.cell? ⟨w.heap.size, 1, none⟩ = some (.int .i64 dir) := HC.out.cell 1
      have kC2 : V0.cell? ⟨w.heap.size, 2, none⟩ = some (.int .i64 mo) := HC.out.cell 2
      have kC3 : V0.cell? ⟨w.heap.size, 3, none⟩ = some (.int .i64 le) := HC.out.cell 3
      have kC4 : V0.cell? ⟨w.heap.size, 4, none⟩ = some (.bool bw) := HC.out.cell 4
      have kC5 : V0.cell? ⟨w.heap.size, 5, none⟩ = some (R) := HC.out.cell 5
      have kT0 : V0.cell? ⟨w.heap.size + 1, 0, none⟩ = some (.int .u64 x) := HT.out.cell 0
      have kT1 : V0.cell? ⟨w.heap.size + 1, 1, none⟩ = some (.int .u64 y) := HT.out.cell 1
      go_wp2_with fail
      go_ret
      exact ⟨rfl, EE.out⟩
    · have E := S2 hu hd
      have HE := Lib.hid E
      have hd' : (dir == d) = false := beq_eq_false_iff_ne.2 hd
      clear S0 S1 S2 E
      go_enter Tryd.func26, Tryd.ntmps26
      go_wp2_with fail
      have BC := (Blk.new w #[.int .i64 p, .int .i64 d, .int .i64 mo, .int .i64 le, .bool bw, R] 36).alloc (.cells #[.int .u64 x, .int .u64 y] 40)
      have BT := Blk.new (w.alloc (.cells #[.int .i64 p, .int .i64 d, .int .i64 mo, .int .i64 le, .bool bw, R] 36)) #[.int .u64 x, .int .u64 y] 40
      rw [World.size_alloc] at BT
      have BE : Below w.heap.size w ((w.alloc (.cells #[.int .i64 p, .int .i64 d, .int .i64 mo, .int .i64 le, .bool bw, R] 36)).alloc (.cells #[.int .u64 x, .int .u64 y] 40)) := ((Below.refl w.heap.size w).alloc (Nat.le_refl _) _).alloc (by simp <;> omega) _
      obtain ⟨V0, hV0⟩ : ∃ V, ((w.alloc (.cells #[.int .i64 p, .int .i64 d, .int .i64 mo, .int .i64 le, .bool bw, R] 36)).alloc (.cells #[.int .u64 x, .int .u64 y] 40)) = V := ⟨_, rfl⟩
      rw [hV0] at BC BT BE ⊢
      have HC := Lib.hid BC
      have HT := Lib.hid BT
      have EE := Lib.hid BE
      have ne0_1 : w.heap.size ≠ w.heap.size + 1 := by omega
      have ne1_0 : w.heap.size + 1 ≠ w.heap.size := by omega
      clear hV0 BE BC BT
      have kC0 : V0.cell? ⟨w.heap.size, 0, none⟩ = some (.int .i64 p) := HC.out.cell 0
      have kC1 : V0.cell? ⟨w.heap.size, 1, none⟩ = some (.int .i64 d) := HC.out.cell 1
      have kC2 : V0.cell? ⟨w.heap.size, 2, none⟩ = some (.int .i64 mo) := HC.out.cell 2
      have kC3 : V0.cell? ⟨w.heap.size, 3, none⟩ = some (.int .i64 le) := HC.out.cell 3
      have kC4 : V0.cell? ⟨w.heap.size, 4, none⟩ = some (.bool bw) := HC.out.cell 4
      have kC5 : V0.cell? ⟨w.heap.size, 5, none⟩ = some (R) := HC.out.cell 5
      have kT0 : V0.cell? ⟨w.heap.size + 1, 0, none⟩ = some (.int .u64 x) := HT.out.cell 0
      have kT1 : V0.cell? ⟨w.heap.size + 1, 1, none⟩ = some (.int .u64 y) := HT.out.cell 1
      have CM := CMh.out
      go_wp2_with fail
      clear CM
      refine (KBh.out _).mono ?_
      rintro e v1 ⟨rfl, hb⟩
      clear kC0 kC1 kC2 kC3 kC4 kC5 kT0 kT1
      have HC := Lib.hid (Blk.next (w := V0) HC.out hb)
      have HT := Lib.hid (Blk.next (w := V0) HT.out hb)
      have EE := Lib.hid (EE.out.trans (hb.mono EE.out.size))
      clear hb
      have kC0 : v1.cell? ⟨w.heap.size, 0, none⟩ = some (.int .i64 p) := HC.out.cell 0
      have kC1 : v1.cell? ⟨w.heap.size, 1, none⟩ = some (.int .i64 d) := HC.out.cell 1
      have kC2 : v1.cell? ⟨w.heap.size, 2, none⟩ = some (.int .i64 mo) := HC.out.cell 2
      have kC3 : v1.cell? ⟨w.heap.size, 3, none⟩ = some (.int .i64 le) := HC.out.cell 3
      have kC4 : v1.cell? ⟨w.heap.size, 4, none⟩ = some (.bool bw) := HC.out.cell 4
      have kC5 : v1.cell? ⟨w.heap.size, 5, none⟩ = some (R) := HC.out.cell 5
      have kT0 : v1.cell? ⟨w.heap.size + 1, 0, none⟩ = some (.int .u64 x) := HT.out.cell 0
      have kT1 : v1.cell? ⟨w.heap.size + 1, 1, none⟩ = some (.int .u64 y) := HT.out.cell 1
      have CM := CMh.out
      go_wp2_with fail
      go_ret
      exact ⟨by rw [HE.out]; rfl, EE.out⟩
theorem Blk.drew {w : World} {g : Nat} {T : TypeId} {cs : Array Value} (h : Blk w g T cs) : Blk w.drew g T cs := h
end Go.Proofs.YtbjcigkakeffmaaDoor
