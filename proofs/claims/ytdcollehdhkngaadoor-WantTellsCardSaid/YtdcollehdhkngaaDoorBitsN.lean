/- The example of the sets. -/
import Derived.Test.YtdcollehdhkngaaDoorRows
import Derived.Test.YtdcollehdhkngaaDoorRowKit
import Derived.Test.YtdcollehdhkngaaDoorSlicesEq
import Derived.Test.YtdcollehdhkngaaDoorRowL
import Derived.Test.YtdcollehdhkngaaDoorMakeI
import Derived.Test.YtdcollehdhkngaaDoorBlocks
import Derived.Test.YtdcollehdhkngaaDoorBitsMath
import Derived.Test.YtdcollehdhkngaaDoorBitsA2
import Derived.Test.YtdcollehdhkngaaDoorBitsD
import Derived.Test.YtdcollehdhkngaaDoorBitsE
import Derived.Test.YtdcollehdhkngaaDoorBitsF
import Derived.Test.YtdcollehdhkngaaDoorBitsL
import Derived.WalkKit
import Derived.IntWalk
import Derived.Lib.Hide
import Derived.WalkSpells
import Derived.WalkLawsBesides
import Derived.Laws.CopyOwn
import Derived.Deep.QuietTactic
import Derived.BigQuiet
import Derived.DeepKeys
namespace Go.Proofs.YtdcollehdhkngaaDoor
open Go.RowKit
set_option linter.unusedSimpArgs false
set_option linter.unusedVariables false
theorem u64_same (d : Nat) (z : Int) (w : World) : (Op.equalIn (d + 1) 22 (.int .u64 z) (.int .u64 z)).run Tryd.prog w = .ok true w := by
  simp [Op.equalIn, run_underlying Tryd.underlying22]
theorem set_same0 (d : Nat) (x y : Int) (w : World) : (Op.equalIn (d + 1 + 1) 24 (.agg #[.int .u64 x, .int .u64 y]) (.agg #[.int .u64 x, .int .u64 y])).run Tryd.prog w = .ok true w := by
  obtain ⟨i, hi⟩ : ∃ i, Tryd.prog.info? 22 = some i := Option.isSome_iff_exists.1 (by kernel_rfl)
  have hc : Tryd.prog.cellsOf 22 = 1 := by kernel_rfl
  have p0 : (part 22 #[(.int .u64 x : Value), .int .u64 y] 0).run Tryd.prog w = .ok (.int .u64 x) w := by kernel_rfl
  have p1 : (part 22 #[(.int .u64 x : Value), .int .u64 y] 1).run Tryd.prog w = .ok (.int .u64 y) w := by kernel_rfl
  rw [run_equalIn_array (P := Tryd.prog) w (d + 1) _ _ Tryd.underlying24 hi, hc]
  show (Op.eqItems (d + 1) 22 1 _ _ [0, 1]).run Tryd.prog w = _
  simp only [Op.eqItems, Sem.run_bind, p0, p1, Nat.zero_mul, Nat.one_mul, u64_same, Result.andThen_ok]
  simp [p1, u64_same]
theorem set_same (x y : Int) (w : World) : (Op.equalIn 10000 24 (.agg #[.int .u64 x, .int .u64 y]) (.agg #[.int .u64 x, .int .u64 y])).run Tryd.prog w = .ok true w := set_same0 9998 x y w
theorem rd_370 (w : World) : RdI (w.alloc (.cells #[.int .i64 3, .int .i64 70] 3)) .i64 (some ⟨w.heap.size, 0, none⟩) [3, 70] := rdI_mk fun i hi => by
  have h0 := World.cell?_alloc_mark w #[.int .i64 3, .int .i64 70] 3 (0, 0) 0
  have h1 := World.cell?_alloc_mark w #[.int .i64 3, .int .i64 70] 3 (0, 0) 1
  rcases (show i = 0 ∨ i = 1 by simp at hi; omega) with rfl | rfl
  · exact ⟨h0, rfl⟩
  · exact ⟨h1, rfl⟩
theorem rd_65 (w : World) : RdI (w.alloc (.cells #[.int .i64 65] 3)) .i64 (some ⟨w.heap.size, 0, none⟩) [65] := rdI_mk fun i hi => by
  have h0 := World.cell?_alloc_mark w #[.int .i64 65] 3 (0, 0) 0
  rcases (show i = 0 by simp at hi; omega) with rfl
  exact ⟨h0, rfl⟩
theorem set_370 : setV (ofF [3, 70] 2) = .agg #[.int .u64 8, .int .u64 64] := by
  unfold setV
  rw [show wordX (ofF [3, 70] 2) = 8 by decide +kernel, show wordY (ofF [3, 70] 2) = 64 by decide +kernel]; rfl
theorem set_65 : setV (ofF [65] 1) = .agg #[.int .u64 0, .int .u64 2] := by
  unfold setV
  rw [show wordX (ofF [65] 1) = 0 by decide +kernel, show wordY (ofF [65] 1) = 2 by decide +kernel]; rfl
theorem set_sh : setV (shF (ofF [3, 70] 2) (-5)) = .agg #[.int .u64 0, .int .u64 2] := by
  unfold setV
  rw [show wordX (shF (ofF [3, 70] 2) (-5)) = 0 by decide +kernel, show wordY (shF (ofF [3, 70] 2) (-5)) = 2 by decide +kernel]; rfl
theorem of_370 (w : World) : Calls Tryd.prog 17 #[.slice (some ⟨w.heap.size, 0, none⟩) 2 2] (w.alloc (.cells #[.int .i64 3, .int .i64 70] 3)) fun e w' => e = .returned (.agg #[.int .u64 8, .int .u64 64]) ∧ Below w.heap.size w w' := by
  have := of_any (some ⟨w.heap.size, 0, none⟩) 2 [3, 70] _ (rd_370 w) (by decide)
  rw [show ([3, 70] : List Int).length = 2 from rfl, set_370] at this
  exact this.mono fun _ _ h => ⟨h.1, ((Below.refl w.heap.size w).alloc (Nat.le_refl _) _).trans (h.2.mono (by simp))⟩
theorem of_65 (w : World) : Calls Tryd.prog 17 #[.slice (some ⟨w.heap.size, 0, none⟩) 1 1] (w.alloc (.cells #[.int .i64 65] 3)) fun e w' => e = .returned (.agg #[.int .u64 0, .int .u64 2]) ∧ Below w.heap.size w w' := by
  have := of_any (some ⟨w.heap.size, 0, none⟩) 1 [65] _ (rd_65 w) (by decide)
  rw [show ([65] : List Int).length = 1 from rfl, set_65] at this
  exact this.mono fun _ _ h => ⟨h.1, ((Below.refl w.heap.size w).alloc (Nat.le_refl _) _).trans (h.2.mono (by simp))⟩
theorem shift_ex (w : World) : Calls Tryd.prog 67 #[.agg #[.int .u64 8, .int .u64 64], .int .i64 (-5)] w fun e w' => e = .returned (.agg #[.int .u64 0, .int .u64 2]) ∧ Below w.heap.size w w' := by
  have := shift_any (ofF [3, 70] 2) (-5) w
  rw [set_370, set_sh] at this
  exact this
set_option maxRecDepth 100000 in
set_option maxHeartbeats 2000000 in
theorem balive (w : World) (hT : TzC w) : Calls Tryd.prog 20 #[] w fun e w' => e = .returned (.bool true) ∧ Below w.heap.size w w' := by
  have HT := Lib.hid hT
  go_enter Tryd.func20, Tryd.ntmps20
  go_wp2_with fail
  refine (of_370 w).mono ?_
  rintro e w1 ⟨rfl, hb1⟩
  have G0 := Blk.new w1 #[(.int .u64 8 : Value), .int .u64 64] 24
  have E0 := hb1.alloc hb1.size (.cells #[(.int .u64 8 : Value), .int .u64 64] 24)
  obtain ⟨V, hV⟩ : ∃ V, w1.alloc (.cells #[(.int .u64 8 : Value), .int .u64 64] 24) = V := ⟨_, rfl⟩
  obtain ⟨g, hg⟩ : ∃ g, w1.heap.size = g := ⟨_, rfl⟩
  rw [hV] at G0 E0
  rw [hg] at G0
  obtain ⟨c0, c1, _, _⟩ := G0.two
  have GH := Lib.hid G0
  have EH := Lib.hid E0
  clear G0 E0 hb1
  go_wp2_with fail
  refine (next_ex V (HT.out.kept EH.out)).mono ?_
  rintro e w2 ⟨rfl, hb2⟩
  have G2 := Lib.hid (GH.out.next hb2)
  have E2 := Lib.hid (EH.out.trans (hb2.mono EH.out.size))
  clear c0 c1
  obtain ⟨c0, c1, _, _⟩ := G2.out.two
  clear hV hg hb2
  go_wp2_with fail
  refine (prev_ex w2).mono ?_
  rintro e w3 ⟨rfl, hb3⟩
  have G3 := Lib.hid (G2.out.next hb3)
  have E3 := Lib.hid (E2.out.trans (hb3.mono E2.out.size))
  clear c0 c1
  obtain ⟨c0, c1, _, _⟩ := G3.out.two
  clear hb3
  go_wp2_with fail
  refine (shift_ex w3).mono ?_
  rintro e w4 ⟨rfl, hb4⟩
  have G4 := Lib.hid (G3.out.next hb4)
  have E4 := Lib.hid (E3.out.trans (hb4.mono E3.out.size))
  clear c0 c1
  obtain ⟨c0, c1, _, _⟩ := G4.out.two
  clear hb4
  go_wp2_with fail
  refine (of_65 w4).mono ?_
  rintro e w5 ⟨rfl, hb5⟩
  have EQ := set_same 0 2
  have G5 := Lib.hid (G4.out.next hb5)
  have E5 := Lib.hid (E4.out.trans (hb5.mono E4.out.size))
  clear c0 c1
  obtain ⟨c0, c1, _, _⟩ := G5.out.two
  clear hb5
  go_wp2_with fail
  refine (count_ex w5).mono ?_
  rintro e w6 ⟨rfl, hb6⟩
  have E6 := Lib.hid (E5.out.trans (hb6.mono E5.out.size))
  clear hb6
  go_wp2_with fail
  go_ret
  exact ⟨rfl, E6.out⟩
end Go.Proofs.YtdcollehdhkngaaDoor
