/- Contracts of figure.Handling at the law's example. -/
import Derived.Test.YtcofafiacpecnaaRows
import Derived.Test.YtcofafiacpecnaaRowKit
import Derived.Test.YtcofafiacpecnaaRowS
import Derived.Test.YtcofafiacpecnaaRowZ
import Derived.Test.YtcofafiacpecnaaTripMath
import Derived.Test.YtcofafiacpecnaaFigA
import Derived.WalkKit
import Derived.Lib.Hide
import Derived.WalkSpells
import Derived.WalkLawsBesides
import Derived.Below
namespace Go.Proofs.Ytcofafiacpecnaa
open Go.RowKit
set_option linter.unusedSimpArgs false
set_option linter.unusedVariables false
theorem handling_eg (g : Nat) (w : World) (h : ∀ j, j < 14 → w.cell? ⟨g, j, none⟩ = some (.int .i64 0)) :
    Calls Try.prog 44 #[.slice (some ⟨g, 0, none⟩) 2 2, .int .i64 100] w fun e w' => e = .returned (.int .i64 6) ∧ Below w.heap.size w w' := by
  have hr : RdZ w 7 (some ⟨g, 0, none⟩) 2 (fun _ _ => 0) := rdZ_mk (fun i j hi hj => by
    refine ⟨?_, by decide⟩
    have := h (i * 7 + j) (by omega)
    rwa [Nat.zero_add]) (lt_of_cell (h 0 (by omega)))
  have := handling_ok (some ⟨g, 0, none⟩) 2 2 100 _ w hr (by omega) (by omega)
  rwa [show ((cntV (fun _ _ => 0) 2 2 : Nat) : Int) * 300 / 100 = 6 by decide] at this
set_option maxHeartbeats 400000 in
theorem figalive (w : World) : Calls Try.prog 45 #[] w fun e w' => e = .returned (.bool true) ∧ Below w.heap.size w w' := by
  go_enter Try.func45, Try.ntmps45
  go_wp2_with fail
  refine (handling_eg _ _ (fun j hj => by
    have : j = 0 ∨ j = 1 ∨ j = 2 ∨ j = 3 ∨ j = 4 ∨ j = 5 ∨ j = 6 ∨ j = 7 ∨ j = 8 ∨ j = 9 ∨ j = 10 ∨ j = 11 ∨ j = 12 ∨ j = 13 := by omega
    rcases this with rfl | rfl | rfl | rfl | rfl | rfl | rfl | rfl | rfl | rfl | rfl | rfl | rfl | rfl <;> rw [World.cell?_alloc_mark] <;> rfl)).mono ?_
  rintro e w1 ⟨rfl, hb1⟩
  go_wp2_with fail
  go_ret
  exact ⟨rfl, ((Below.refl _ _).alloc (Nat.le_refl _) _).trans (hb1.mono (by simp))⟩
end Go.Proofs.Ytcofafiacpecnaa
