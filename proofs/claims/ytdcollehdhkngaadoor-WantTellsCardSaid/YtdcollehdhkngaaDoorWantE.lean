/- The example of layer 30. -/
import Derived.Test.YtdcollehdhkngaaDoorRows
import Derived.Test.YtdcollehdhkngaaDoorRowKit
import Derived.Test.YtdcollehdhkngaaDoorSlicesEq
import Derived.Test.YtdcollehdhkngaaDoorRowL
import Derived.Test.YtdcollehdhkngaaDoorMakeI
import Derived.Test.YtdcollehdhkngaaDoorBlocks
import Derived.Test.YtdcollehdhkngaaDoorBitsMath
import Derived.Test.YtdcollehdhkngaaDoorBitsA2
import Derived.Test.YtdcollehdhkngaaDoorBitsD
import Derived.Test.YtdcollehdhkngaaDoorBitsE
import Derived.Test.YtdcollehdhkngaaDoorBitsH
import Derived.Test.YtdcollehdhkngaaDoorBitsK
import Derived.Test.YtdcollehdhkngaaDoorBitsP
import Derived.Test.YtdcollehdhkngaaDoorBitsS
import Derived.Test.YtdcollehdhkngaaDoorBitsU
import Derived.Test.YtdcollehdhkngaaDoorWantA
import Derived.Test.YtdcollehdhkngaaDoorWantB
import Derived.Test.YtdcollehdhkngaaDoorWantC
import Derived.WalkKit
import Derived.IntWalk
import Derived.Lib.Hide
import Derived.WalkSpells
import Derived.WalkLawsBesides
import Derived.Laws.CopyOwn
import Derived.Deep.QuietTactic
import Derived.BigQuiet
namespace Go.Proofs.YtdcollehdhkngaaDoor
open Go.RowKit
set_option linter.unusedSimpArgs false
set_option linter.unusedVariables false
def F259 : Nat → Bool := ofF [2, 5, 9] 3
theorem rd_259 (w : World) : RdI (w.alloc (.cells #[.int .i64 2, .int .i64 5, .int .i64 9] 3)) .i64 (some ⟨w.heap.size, 0, none⟩) [2, 5, 9] := rdI_mk fun i hi => by
  have h0 := World.cell?_alloc_mark w #[.int .i64 2, .int .i64 5, .int .i64 9] 3 (0, 0) 0
  have h1 := World.cell?_alloc_mark w #[.int .i64 2, .int .i64 5, .int .i64 9] 3 (0, 0) 1
  have h2 := World.cell?_alloc_mark w #[.int .i64 2, .int .i64 5, .int .i64 9] 3 (0, 0) 2
  rcases (show i = 0 ∨ i = 1 ∨ i = 2 by simp at hi; omega) with rfl | rfl | rfl
  · exact ⟨h0, rfl⟩
  · exact ⟨h1, rfl⟩
  · exact ⟨h2, rfl⟩
theorem of_259 (w : World) : Calls Tryd.prog 17 #[.slice (some ⟨w.heap.size, 0, none⟩) 3 3] (w.alloc (.cells #[.int .i64 2, .int .i64 5, .int .i64 9] 3)) fun e w' => e = .returned (setV F259) ∧ Below w.heap.size w w' := by
  have := of_any (some ⟨w.heap.size, 0, none⟩) 3 [2, 5, 9] _ (rd_259 w) (by decide)
  rw [show ([2, 5, 9] : List Int).length = 3 from rfl] at this
  exact this.mono fun _ _ h => ⟨h.1, ((Below.refl w.heap.size w).alloc (Nat.le_refl _) _).trans (h.2.mono (by simp))⟩
theorem end_259 : IsEnd true (byF F259 5 1) 1 9 true := by
  unfold IsEnd
  rw [if_neg (by decide)]
  exact .inl ⟨rfl, 9, rfl, by omega, by decide +kernel, by decide +kernel⟩
theorem bt_259 : btP 9 2 (itL F259 128) = 1 := by decide +kernel
set_option maxRecDepth 100000 in
set_option maxHeartbeats 1000000 in
theorem walive (w : World) (hT : TzT w) : Calls Tryd.prog 41 #[] w fun e w' => e = .returned (.bool true) ∧ Below w.heap.size w w' := by
  have HT := Lib.hid hT
  have OF := fun w => of_259 w
  have NE := fun w hT => nearest_any F259 5 1 w hT
  have BT := fun w hT => between_any F259 9 2 w hT
  rw [bt_259] at BT
  unfold setV at OF NE BT
  obtain ⟨x, hX⟩ : ∃ x, wordX F259 = x := ⟨_, rfl⟩
  obtain ⟨y, hY⟩ : ∃ y, wordY F259 = y := ⟨_, rfl⟩
  simp only [hX, hY] at OF NE BT
  have OFh := Lib.hid OF
  have NEh := Lib.hid NE
  have BTh := Lib.hid BT
  clear OF NE BT hX hY hT
  go_enter Tryd.func41, Tryd.ntmps41
  go_wp2_with fail
  refine (OFh.out w).mono ?_
  rintro e w1 ⟨rfl, hb1⟩
  have E1 := Lib.hid hb1
  clear hb1
  go_wp2_with fail
  refine (NEh.out w1 (HT.out.kept E1.out)).mono ?_
  rintro e w2 ⟨r, b, rfl, hh, hb2⟩
  obtain ⟨rfl, rfl⟩ := hh.same end_259
  have E2 := Lib.hid (E1.out.trans (hb2.mono E1.out.size))
  clear hh hb2
  go_wp2_with fail
  refine (OFh.out w2).mono ?_
  rintro e w3 ⟨rfl, hb3⟩
  have E3 := Lib.hid (E2.out.trans (hb3.mono E2.out.size))
  clear hb3
  go_wp2_with fail
  refine (BTh.out w3 (HT.out.kept E3.out)).mono ?_
  rintro e w4 ⟨rfl, hb4⟩
  have E4 := Lib.hid (E3.out.trans (hb4.mono E3.out.size))
  clear hb4
  go_wp2_with fail
  go_ret
  exact ⟨rfl, E4.out⟩
end Go.Proofs.YtdcollehdhkngaaDoor
