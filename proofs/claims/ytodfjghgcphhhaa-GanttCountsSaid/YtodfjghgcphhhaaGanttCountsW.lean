/- The walk of GanttCounts: it answers true for every input, and leaves all old blocks as they were. No condition. -/
import Derived.Test.YtodfjghgcphhhaaRows
import Derived.Test.YtodfjghgcphhhaaRowKit
import Derived.Test.YtodfjghgcphhhaaRowS
import Derived.Test.YtodfjghgcphhhaaRowZ
import Derived.Test.YtodfjghgcphhhaaRowV
import Derived.Test.YtodfjghgcphhhaaRowW
import Derived.Test.YtodfjghgcphhhaaSlicesEq
import Derived.Test.YtodfjghgcphhhaaBlocks
import Derived.Test.YtodfjghgcphhhaaAtKit
import Derived.Test.YtodfjghgcphhhaaGanttMath
import Derived.Test.YtodfjghgcphhhaaTrackA
import Derived.Test.YtodfjghgcphhhaaTrackB
import Derived.Test.YtodfjghgcphhhaaGanttM2
import Derived.Test.YtodfjghgcphhhaaGanttA
import Derived.Test.YtodfjghgcphhhaaGanttB
import Derived.Test.YtodfjghgcphhhaaGanttC
import Derived.Test.YtodfjghgcphhhaaGanttD
import Derived.Test.YtodfjghgcphhhaaGanttE
import Derived.WalkKit
import Derived.ProofKit
import Derived.OpenShut
import Derived.Deep.QuietTactic
import Derived.BigQuiet
import Derived.Lib.SmallJoins
import Derived.Lib.Hide
import Derived.WalkSpells
import Derived.WalkLawsBesides
import Derived.OwnWalk
import Derived.BigRegion
import Derived.Deep.LoopGhost
import Derived.Deep.RegionHeld3
import Derived.IntWalk
namespace Go.Proofs.Ytodfjghgcphhhaa.ganttCounts
open Go.ChangeShapes Go.WideShapes Go.ChangeAt Go.RowKit Go.Joins
set_option linter.unusedSimpArgs false
set_option linter.unusedVariables false

theorem int_same (n : Nat) (a : Int) (w : World) : (Op.equalIn (n + 1) 3 (.int .i64 a) (.int .i64 a)).run Try.prog w = .ok true w := by
  simp [Op.equalIn, run_underlying Try.underlying3]
theorem arr_same0 (d : Nat) (x y z : Int) (w : World) : (Op.equalIn (d + 1 + 1) 25 (.agg #[.int .i64 x, .int .i64 y, .int .i64 z]) (.agg #[.int .i64 x, .int .i64 y, .int .i64 z])).run Try.prog w = .ok true w := by
  obtain ⟨i, hi⟩ : ∃ i, Try.prog.info? 3 = some i := Option.isSome_iff_exists.1 (by kernel_rfl)
  have hc : Try.prog.cellsOf 3 = 1 := by kernel_rfl
  have p0 : (part 3 #[(.int .i64 x : Value), .int .i64 y, .int .i64 z] 0).run Try.prog w = .ok (.int .i64 x) w := by kernel_rfl
  have p1 : (part 3 #[(.int .i64 x : Value), .int .i64 y, .int .i64 z] 1).run Try.prog w = .ok (.int .i64 y) w := by kernel_rfl
  have p2 : (part 3 #[(.int .i64 x : Value), .int .i64 y, .int .i64 z] 2).run Try.prog w = .ok (.int .i64 z) w := by kernel_rfl
  rw [run_equalIn_array (P := Try.prog) w (d + 1) _ _ Try.underlying25 hi, hc]
  show (Op.eqItems (d + 1) 3 1 _ _ [0, 1, 2]).run Try.prog w = _
  simp only [Op.eqItems, Sem.run_bind, p0, p1, p2, Nat.zero_mul, Nat.one_mul, int_same, Result.andThen_ok]
  simp [p1, p2, int_same]
theorem arr_same (x y z : Int) (w : World) : (Op.equalIn 10000 25 (.agg #[.int .i64 x, .int .i64 y, .int .i64 z]) (.agg #[.int .i64 x, .int .i64 y, .int .i64 z])).run Try.prog w = .ok true w := arr_same0 9998 x y z w
set_option maxRecDepth 100000 in
set_option maxHeartbeats 8000000 in
theorem walk_f (A : Option Addr) (c n : Nat) (T P D : Nat → Int) (O : Nat → Bool) (f tt x y z : Int) (w : World) (hr : RdL w A n T P D O) (hl : n ≤ 9223372036854775807) :
    Calls Try.prog 3 #[.slice A n c, .agg #[.int .i64 f, .int .i64 tt], .agg #[.int .i64 x, .int .i64 y, .int .i64 z]] w fun e w' => e = .returned (.bool true) ∧ Below w.heap.size w w' := by
  have HR := Lib.hid hr
  have GR := Lib.hid (fun W hr => great25_any A c n T P D O W hr hl)
  have AS := Lib.hid arr_same
  clear hr
  go_enter Try.func3, Try.ntmps3
  go_wp2_with fail
  have BS := (Blk.new w #[.int .i64 f, .int .i64 tt] 24).alloc (.cells #[.int .i64 x, .int .i64 y, .int .i64 z] 25)
  have BX := Blk.new (w.alloc (.cells #[.int .i64 f, .int .i64 tt] 24)) #[.int .i64 x, .int .i64 y, .int .i64 z] 25
  rw [World.size_alloc] at BX
  have BE : Below w.heap.size w ((w.alloc (.cells #[.int .i64 f, .int .i64 tt] 24)).alloc (.cells #[.int .i64 x, .int .i64 y, .int .i64 z] 25)) := ((Below.refl w.heap.size w).alloc (Nat.le_refl _) _).alloc (by simp <;> omega) _
  obtain ⟨V0, hV0⟩ : ∃ V, ((w.alloc (.cells #[.int .i64 f, .int .i64 tt] 24)).alloc (.cells #[.int .i64 x, .int .i64 y, .int .i64 z] 25)) = V := ⟨_, rfl⟩
  rw [hV0] at BS BX BE ⊢
  have HS := Lib.hid BS
  have HX := Lib.hid BX
  have EE := Lib.hid BE
  have ne0_1 : w.heap.size ≠ w.heap.size + 1 := by omega
  have ne1_0 : w.heap.size + 1 ≠ w.heap.size := by omega
  clear hV0 BE BS BX
  have kS0 : V0.cell? ⟨w.heap.size, 0, none⟩ = some (.int .i64 f) := HS.out.cell 0
  have kS1 : V0.cell? ⟨w.heap.size, 1, none⟩ = some (.int .i64 tt) := HS.out.cell 1
  have kX0 : V0.cell? ⟨w.heap.size + 1, 0, none⟩ = some (.int .i64 x) := HX.out.cell 0
  have kX1 : V0.cell? ⟨w.heap.size + 1, 1, none⟩ = some (.int .i64 y) := HX.out.cell 1
  have kX2 : V0.cell? ⟨w.heap.size + 1, 2, none⟩ = some (.int .i64 z) := HX.out.cell 2
  refine (GR.out _ (HR.out.kept EE.out)).mono ?_
  rintro e v1 ⟨r, rfl, hf, hb⟩
  clear kS0 kS1 kX0 kX1 kX2
  have HS := Lib.hid (Blk.next (w := V0) HS.out hb)
  have HX := Lib.hid (Blk.next (w := V0) HX.out hb)
  have EE := Lib.hid (EE.out.trans (hb.mono EE.out.size))
  clear hb
  have kS0 : v1.cell? ⟨w.heap.size, 0, none⟩ = some (.int .i64 f) := HS.out.cell 0
  have kS1 : v1.cell? ⟨w.heap.size, 1, none⟩ = some (.int .i64 tt) := HS.out.cell 1
  have kX0 : v1.cell? ⟨w.heap.size + 1, 0, none⟩ = some (.int .i64 x) := HX.out.cell 0
  have kX1 : v1.cell? ⟨w.heap.size + 1, 1, none⟩ = some (.int .i64 y) := HX.out.cell 1
  have kX2 : v1.cell? ⟨w.heap.size + 1, 2, none⟩ = some (.int .i64 z) := HX.out.cell 2
  have HF := Lib.hid hf; clear hf
  cases r
  · by_cases c1 : f < -1048576
    · go_wp2_with fail
      go_ret
      exact ⟨rfl, EE.out⟩
    · by_cases c2 : 1048576 < f
      · go_wp2_with fail
        go_ret
        exact ⟨rfl, EE.out⟩
      · by_cases c3 : tt < -1048576
        · go_wp2_with fail
          go_ret
          exact ⟨rfl, EE.out⟩
        · have hw : IntKind.i64.wrap (f + 300) = f + 300 := IntWalk.i64_in _ (by omega)
          by_cases c4 : f + 300 < tt
          · go_wp2_with fail
            go_ret
            exact ⟨rfl, EE.out⟩
          · have FL := HF.out rfl
            have K1 := Lib.hid (fun W hr => gcount_any A c n T P D O f tt W hr FL (by omega) (by omega) (by omega) (by omega))
            have K2 := Lib.hid (fun W hr => dcount_any A c n T P D O f tt W hr FL (by omega) (by omega) (by omega) (by omega))
            unfold CntR at K1; unfold CntD at K2
            obtain ⟨u, hu⟩ : ∃ u, sumF (upL T P D O n) f (tt - f).toNat = u := ⟨_, rfl⟩
            rw [hu] at K1 K2
            obtain ⟨d, hd⟩ : ∃ d, sumF (dnL T P D O n) f (tt - f).toNat = d := ⟨_, rfl⟩
            rw [hd] at K1 K2
            obtain ⟨q, hq⟩ : ∃ q, sumF (doL T O n) f (tt - f).toNat = q := ⟨_, rfl⟩
            rw [hq] at K1 K2
            clear FL hu hd hq
            obtain ⟨mk, hmk⟩ : ∃ m, markV x y z = m := ⟨_, rfl⟩
            have K3 := Lib.hid (fun W => mark_any x y z W)
            have K4 := Lib.hid (fun W => dmark_any x y z W)
            have K5 := Lib.hid alive71
            rw [hmk] at K3 K4
            clear hmk
            go_wp2_with fail
            refine (K1.out _ (HR.out.kept EE.out)).mono ?_
            rintro e v2 ⟨rfl, hb⟩
            clear kS0 kS1 kX0 kX1 kX2
            have HS := Lib.hid (Blk.next (w := v1) HS.out hb)
            have HX := Lib.hid (Blk.next (w := v1) HX.out hb)
            have EE := Lib.hid (EE.out.trans (hb.mono EE.out.size))
            clear hb
            have kS0 : v2.cell? ⟨w.heap.size, 0, none⟩ = some (.int .i64 f) := HS.out.cell 0
            have kS1 : v2.cell? ⟨w.heap.size, 1, none⟩ = some (.int .i64 tt) := HS.out.cell 1
            have kX0 : v2.cell? ⟨w.heap.size + 1, 0, none⟩ = some (.int .i64 x) := HX.out.cell 0
            have kX1 : v2.cell? ⟨w.heap.size + 1, 1, none⟩ = some (.int .i64 y) := HX.out.cell 1
            have kX2 : v2.cell? ⟨w.heap.size + 1, 2, none⟩ = some (.int .i64 z) := HX.out.cell 2
            go_wp2_with fail
            have AE := AS.out u d q
            have sK : ∀ X, Blk X (w.heap.size) 24 #[.int .i64 f, .int .i64 tt] → Blk X (w.heap.size + 1) 25 #[.int .i64 x, .int .i64 y, .int .i64 z] → (fun X => X.cell? ⟨w.heap.size, 0, none⟩ = some (.int .i64 f) ∧ X.cell? ⟨w.heap.size, 1, none⟩ = some (.int .i64 tt) ∧ X.cell? ⟨w.heap.size + 1, 0, none⟩ = some (.int .i64 x) ∧ X.cell? ⟨w.heap.size + 1, 1, none⟩ = some (.int .i64 y) ∧ X.cell? ⟨w.heap.size + 1, 2, none⟩ = some (.int .i64 z)) X := fun X hS hX => ⟨hS.cell 0, hS.cell 1, hX.cell 0, hX.cell 1, hX.cell 2⟩
            have LS0 := Lib.hid (HS.out.drew)
            have LX0 := Lib.hid (HX.out.drew)
            have E0 := Lib.hid (EE.out.drew)
            clear kS0 kS1 kX0 kX1 kX2
            refine wp_region_held_drew (S := (fun X => X.cell? ⟨w.heap.size, 0, none⟩ = some (.int .i64 f) ∧ X.cell? ⟨w.heap.size, 1, none⟩ = some (.int .i64 tt) ∧ X.cell? ⟨w.heap.size + 1, 0, none⟩ = some (.int .i64 x) ∧ X.cell? ⟨w.heap.size + 1, 1, none⟩ = some (.int .i64 y) ∧ X.cell? ⟨w.heap.size + 1, 2, none⟩ = some (.int .i64 z))) (by kernel_rfl) (sK _ LS0.out LX0.out) (fun hHeld => ?_)
            clear hHeld
            refine wpAnyH_take (i := 0) (v := ?_) rfl (by kernel_rfl) (by kernel_rfl) (by kernel_rfl) (fun _ _ _ h => h) (Or.inl ⟨by rfl, ?_⟩) (sK _ LS0.out LX0.out) ?_
            rotate_left
            · (intro wS hSw; (try dsimp only at hSw); go_simp; try with_reducible rfl)
            simp only [Act.put, List.getElem_toArray, List.getElem_cons_zero, List.getElem_cons_succ, List.setIfInBounds_toArray, List.set_cons_zero, List.set_cons_succ]
            refine wpAnyH_take (i := 1) (v := ?_) rfl (by kernel_rfl) (by kernel_rfl) (by kernel_rfl) (fun _ _ _ h => h) (Or.inl ⟨by rfl, ?_⟩) (sK _ LS0.out LX0.out) ?_
            rotate_left
            · (intro wS hSw; (try dsimp only at hSw); go_simp; try with_reducible rfl)
            simp only [Act.put, List.getElem_toArray, List.getElem_cons_zero, List.getElem_cons_succ, List.setIfInBounds_toArray, List.set_cons_zero, List.set_cons_succ]
            refine wpAnyH_take (i := 2) (v := ?_) rfl (by kernel_rfl) (by kernel_rfl) (by kernel_rfl) (fun _ _ _ h => h) (Or.inl ⟨by rfl, ?_⟩) (sK _ LS0.out LX0.out) ?_
            rotate_left
            · (intro wS hSw; (try dsimp only at hSw); go_simp; try with_reducible rfl)
            simp only [Act.put, List.getElem_toArray, List.getElem_cons_zero, List.getElem_cons_succ, List.setIfInBounds_toArray, List.set_cons_zero, List.set_cons_succ]
            refine wpAnyH_take (i := 3) (v := ?_) rfl (by kernel_rfl) (by kernel_rfl) (by kernel_rfl) (fun _ _ _ h => h) (Or.inl ⟨by rfl, ?_⟩) (sK _ LS0.out LX0.out) ?_
            rotate_left
            · (intro wS hSw; (try dsimp only at hSw); go_simp; try with_reducible rfl)
            simp only [Act.put, List.getElem_toArray, List.getElem_cons_zero, List.getElem_cons_succ, List.setIfInBounds_toArray, List.set_cons_zero, List.set_cons_succ]
            refine wpAnyH_take (i := 4) (v := ?_) rfl (by kernel_rfl) (by kernel_rfl) (by kernel_rfl) (fun _ _ _ h => h) (Or.inl ⟨by rfl, ?_⟩) (sK _ LS0.out LX0.out) ?_
            rotate_left
            · (intro wS hSw; (try dsimp only at hSw); go_simp; try with_reducible rfl)
            simp only [Act.put, List.getElem_toArray, List.getElem_cons_zero, List.getElem_cons_succ, List.setIfInBounds_toArray, List.set_cons_zero, List.set_cons_succ]
            refine wpAnyH_take (i := 5) (v := ?_) rfl (by kernel_rfl) (by kernel_rfl) (by kernel_rfl) (fun _ _ _ h => h) (Or.inl ⟨by rfl, ?_⟩) (sK _ LS0.out LX0.out) ?_
            rotate_left
            · (intro wS hSw; (try dsimp only at hSw); go_simp; try with_reducible rfl)
            simp only [Act.put, List.getElem_toArray, List.getElem_cons_zero, List.getElem_cons_succ, List.setIfInBounds_toArray, List.set_cons_zero, List.set_cons_succ]
            refine wpAnyH_ready (rs := [6]) (by kernel_rfl) (by simp) ?_
            refine AllReadyH.cons rfl (fun K hK => ?_) AllReadyH.nil
            go_simp
            refine (K2.out _ (HR.out.kept E0.out)).mono ?_
            rintro e r1 ⟨rfl, hb⟩
            have LS1 := Lib.hid (Blk.next (w := v2.drew) LS0.out hb)
            have LX1 := Lib.hid (Blk.next (w := v2.drew) LX0.out hb)
            have E1 := Lib.hid (E0.out.trans (hb.mono E0.out.size))
            clear hb
            go_wp2_with fail
            refine hK.out _ _ (sK _ LS1.out LX1.out) (fun hHeld => ?_)
            clear hK K hHeld
            try simp only [Act.put, List.getElem_toArray, List.getElem_cons_zero, List.getElem_cons_succ, List.setIfInBounds_toArray, List.set_cons_zero, List.set_cons_succ]
            refine wpAnyH_take (i := 7) (v := ?_) rfl (by kernel_rfl) (by kernel_rfl) (by kernel_rfl) (fun _ _ _ h => h) (Or.inl ⟨by rfl, ?_⟩) (sK _ LS1.out LX1.out) ?_
            rotate_left
            · (intro wS hSw; (try dsimp only at hSw); go_simp; try with_reducible rfl)
            simp only [Act.put, List.getElem_toArray, List.getElem_cons_zero, List.getElem_cons_succ, List.setIfInBounds_toArray, List.set_cons_zero, List.set_cons_succ]
            refine wpAnyH_take (i := 8) (v := ?_) rfl (by kernel_rfl) (by kernel_rfl) (by kernel_rfl) (fun _ _ _ h => h) (Or.inl ⟨by rfl, ?_⟩) (sK _ LS1.out LX1.out) ?_
            rotate_left
            · (intro wS hSw; (try dsimp only at hSw); go_simp; try with_reducible rfl)
            simp only [Act.put, List.getElem_toArray, List.getElem_cons_zero, List.getElem_cons_succ, List.setIfInBounds_toArray, List.set_cons_zero, List.set_cons_succ]
            refine wpAnyH_take (i := 9) (v := ?_) rfl (by kernel_rfl) (by kernel_rfl) (by kernel_rfl) (fun _ _ _ h => h) (Or.inl ⟨by rfl, ?_⟩) (sK _ LS1.out LX1.out) ?_
            rotate_left
            · (intro wS hSw; (try dsimp only at hSw); go_simp; try with_reducible rfl)
            simp only [Act.put, List.getElem_toArray, List.getElem_cons_zero, List.getElem_cons_succ, List.setIfInBounds_toArray, List.set_cons_zero, List.set_cons_succ]
            refine wpAnyH_take (i := 10) (v := ?_) rfl (by kernel_rfl) (by kernel_rfl) (by kernel_rfl) (fun _ _ _ h => h) (Or.inl ⟨by rfl, ?_⟩) (sK _ LS1.out LX1.out) ?_
            rotate_left
            · (intro wS hSw; (try dsimp only at hSw); go_simp; try with_reducible rfl)
            simp only [Act.put, List.getElem_toArray, List.getElem_cons_zero, List.getElem_cons_succ, List.setIfInBounds_toArray, List.set_cons_zero, List.set_cons_succ]
            refine wpAnyH_take (i := 11) (v := ?_) rfl (by kernel_rfl) (by kernel_rfl) (by kernel_rfl) (fun _ _ _ h => h) (Or.inl ⟨by rfl, ?_⟩) (sK _ LS1.out LX1.out) ?_
            rotate_left
            · (intro wS hSw; (try dsimp only at hSw); go_simp; try with_reducible rfl)
            simp only [Act.put, List.getElem_toArray, List.getElem_cons_zero, List.getElem_cons_succ, List.setIfInBounds_toArray, List.set_cons_zero, List.set_cons_succ]
            refine wpAnyH_take (i := 12) (v := ?_) rfl (by kernel_rfl) (by kernel_rfl) (by kernel_rfl) (fun _ _ _ h => h) (Or.inl ⟨by rfl, ?_⟩) (sK _ LS1.out LX1.out) ?_
            rotate_left
            · (intro wS hSw; (try dsimp only at hSw); go_simp; try with_reducible rfl)
            simp only [Act.put, List.getElem_toArray, List.getElem_cons_zero, List.getElem_cons_succ, List.setIfInBounds_toArray, List.set_cons_zero, List.set_cons_succ]
            refine wpAnyH_take (i := 13) (v := ?_) rfl (by kernel_rfl) (by kernel_rfl) (by kernel_rfl) (fun _ _ _ h => h) (Or.inl ⟨by rfl, ?_⟩) (sK _ LS1.out LX1.out) ?_
            rotate_left
            · (intro wS hSw; (try dsimp only at hSw); go_simp; try with_reducible rfl)
            simp only [Act.put, List.getElem_toArray, List.getElem_cons_zero, List.getElem_cons_succ, List.setIfInBounds_toArray, List.set_cons_zero, List.set_cons_succ]
            refine wpAnyH_take (i := 14) (v := ?_) rfl (by kernel_rfl) (by kernel_rfl) (by kernel_rfl) (fun _ _ _ h => h) (Or.inl ⟨by rfl, ?_⟩) (sK _ LS1.out LX1.out) ?_
            rotate_left
            · (intro wS hSw; (try dsimp only at hSw); go_simp; try with_reducible rfl)
            simp only [Act.put, List.getElem_toArray, List.getElem_cons_zero, List.getElem_cons_succ, List.setIfInBounds_toArray, List.set_cons_zero, List.set_cons_succ]
            refine wpAnyH_take (i := 16) (v := ?_) rfl (by kernel_rfl) (by kernel_rfl) (by kernel_rfl) (fun _ _ _ h => h) (Or.inl ⟨by rfl, ?_⟩) (sK _ LS1.out LX1.out) ?_
            rotate_left
            · (intro wS hSw; (try dsimp only at hSw); go_simp; try with_reducible rfl)
            simp only [Act.put, List.getElem_toArray, List.getElem_cons_zero, List.getElem_cons_succ, List.setIfInBounds_toArray, List.set_cons_zero, List.set_cons_succ]
            refine wpAnyH_take (i := 17) (v := ?_) rfl (by kernel_rfl) (by kernel_rfl) (by kernel_rfl) (fun _ _ _ h => h) (Or.inl ⟨by rfl, ?_⟩) (sK _ LS1.out LX1.out) ?_
            rotate_left
            · (intro wS hSw; (try dsimp only at hSw); go_simp; try with_reducible rfl)
            simp only [Act.put, List.getElem_toArray, List.getElem_cons_zero, List.getElem_cons_succ, List.setIfInBounds_toArray, List.set_cons_zero, List.set_cons_succ]
            refine wpAnyH_take (i := 18) (v := ?_) rfl (by kernel_rfl) (by kernel_rfl) (by kernel_rfl) (fun _ _ _ h => h) (Or.inl ⟨by rfl, ?_⟩) (sK _ LS1.out LX1.out) ?_
            rotate_left
            · (intro wS hSw; (try dsimp only at hSw); go_simp; try with_reducible rfl)
            simp only [Act.put, List.getElem_toArray, List.getElem_cons_zero, List.getElem_cons_succ, List.setIfInBounds_toArray, List.set_cons_zero, List.set_cons_succ]
            refine wpAnyH_take (i := 19) (v := ?_) rfl (by kernel_rfl) (by kernel_rfl) (by kernel_rfl) (fun _ _ _ h => h) (Or.inl ⟨by rfl, ?_⟩) (sK _ LS1.out LX1.out) ?_
            rotate_left
            · (intro wS hSw; (try dsimp only at hSw); go_simp; try with_reducible rfl)
            simp only [Act.put, List.getElem_toArray, List.getElem_cons_zero, List.getElem_cons_succ, List.setIfInBounds_toArray, List.set_cons_zero, List.set_cons_succ]
            refine wpAnyH_take (i := 20) (v := ?_) rfl (by kernel_rfl) (by kernel_rfl) (by kernel_rfl) (fun _ _ _ h => h) (Or.inl ⟨by rfl, ?_⟩) (sK _ LS1.out LX1.out) ?_
            rotate_left
            · (intro wS hSw; (try dsimp only at hSw); go_simp; try with_reducible rfl)
            simp only [Act.put, List.getElem_toArray, List.getElem_cons_zero, List.getElem_cons_succ, List.setIfInBounds_toArray, List.set_cons_zero, List.set_cons_succ]
            refine wpAnyH_take (i := 21) (v := ?_) rfl (by kernel_rfl) (by kernel_rfl) (by kernel_rfl) (fun _ _ _ h => h) (Or.inl ⟨by rfl, ?_⟩) (sK _ LS1.out LX1.out) ?_
            rotate_left
            · (intro wS hSw; (try dsimp only at hSw); go_simp; try with_reducible rfl)
            simp only [Act.put, List.getElem_toArray, List.getElem_cons_zero, List.getElem_cons_succ, List.setIfInBounds_toArray, List.set_cons_zero, List.set_cons_succ]
            refine wpAnyH_ready (rs := [15]) (by kernel_rfl) (by simp) ?_
            refine AllReadyH.cons rfl (fun K hK => ?_) AllReadyH.nil
            go_simp
            refine (K3.out _).mono ?_
            rintro e r2 ⟨rfl, hb⟩
            have LS2 := Lib.hid (Blk.next (w := r1) LS1.out hb)
            have LX2 := Lib.hid (Blk.next (w := r1) LX1.out hb)
            have E2 := Lib.hid (E1.out.trans (hb.mono E1.out.size))
            clear hb
            go_wp2_with fail
            refine hK.out _ _ (sK _ LS2.out LX2.out) (fun hHeld => ?_)
            clear hK K hHeld
            try simp only [Act.put, List.getElem_toArray, List.getElem_cons_zero, List.getElem_cons_succ, List.setIfInBounds_toArray, List.set_cons_zero, List.set_cons_succ]
            refine wpAnyH_ready (rs := [22]) (by kernel_rfl) (by simp) ?_
            refine AllReadyH.cons rfl (fun K hK => ?_) AllReadyH.nil
            go_simp
            refine (K4.out _).mono ?_
            rintro e r3 ⟨rfl, hb⟩
            have LS3 := Lib.hid (Blk.next (w := r2) LS2.out hb)
            have LX3 := Lib.hid (Blk.next (w := r2) LX2.out hb)
            have E3 := Lib.hid (E2.out.trans (hb.mono E2.out.size))
            clear hb
            go_wp2_with fail
            refine hK.out _ _ (sK _ LS3.out LX3.out) (fun hHeld => ?_)
            clear hK K hHeld
            try simp only [Act.put, List.getElem_toArray, List.getElem_cons_zero, List.getElem_cons_succ, List.setIfInBounds_toArray, List.set_cons_zero, List.set_cons_succ]
            refine wpAnyH_take (i := 23) (v := ?_) rfl (by kernel_rfl) (by kernel_rfl) (by kernel_rfl) (fun _ _ _ h => h) (Or.inl ⟨by rfl, ?_⟩) (sK _ LS3.out LX3.out) ?_
            rotate_left
            · (intro wS hSw; (try dsimp only at hSw); go_simp; try with_reducible rfl)
            simp only [Act.put, List.getElem_toArray, List.getElem_cons_zero, List.getElem_cons_succ, List.setIfInBounds_toArray, List.set_cons_zero, List.set_cons_succ]
            refine wpAnyH_take (i := 24) (v := ?_) rfl (by kernel_rfl) (by kernel_rfl) (by kernel_rfl) (fun _ _ _ h => h) (Or.inl ⟨by rfl, ?_⟩) (sK _ LS3.out LX3.out) ?_
            rotate_left
            · (intro wS hSw; (try dsimp only at hSw); go_simp; try with_reducible rfl)
            simp only [Act.put, List.getElem_toArray, List.getElem_cons_zero, List.getElem_cons_succ, List.setIfInBounds_toArray, List.set_cons_zero, List.set_cons_succ]
            refine wpAnyH_take (i := 25) (v := ?_) rfl (by kernel_rfl) (by kernel_rfl) (by kernel_rfl) (fun _ _ _ h => h) (Or.inl ⟨by rfl, ?_⟩) (sK _ LS3.out LX3.out) ?_
            rotate_left
            · (intro wS hSw; (try dsimp only at hSw); go_simp; try with_reducible rfl)
            simp only [Act.put, List.getElem_toArray, List.getElem_cons_zero, List.getElem_cons_succ, List.setIfInBounds_toArray, List.set_cons_zero, List.set_cons_succ]
            refine wpAnyH_ready (rs := [26]) (by kernel_rfl) (by simp) ?_
            refine AllReadyH.cons rfl (fun K hK => ?_) AllReadyH.nil
            go_simp
            refine (K5.out _).mono ?_
            rintro e r4 ⟨rfl, hb⟩
            have LS4 := Lib.hid (Blk.next (w := r3) LS3.out hb)
            have LX4 := Lib.hid (Blk.next (w := r3) LX3.out hb)
            have E4 := Lib.hid (E3.out.trans (hb.mono E3.out.size))
            clear hb
            go_wp2_with fail
            refine hK.out _ _ (sK _ LS4.out LX4.out) (fun hHeld => ?_)
            clear hK K hHeld
            try simp only [Act.put, List.getElem_toArray, List.getElem_cons_zero, List.getElem_cons_succ, List.setIfInBounds_toArray, List.set_cons_zero, List.set_cons_succ]
            refine wpAnyH_take (i := 27) (v := ?_) rfl (by kernel_rfl) (by kernel_rfl) (by kernel_rfl) (fun _ _ _ h => h) (Or.inl ⟨by rfl, ?_⟩) (sK _ LS4.out LX4.out) ?_
            rotate_left
            · (intro wS hSw; (try dsimp only at hSw); go_simp; try with_reducible rfl)
            simp only [Act.put, List.getElem_toArray, List.getElem_cons_zero, List.getElem_cons_succ, List.setIfInBounds_toArray, List.set_cons_zero, List.set_cons_succ]
            refine wpAnyH_take (i := 28) (v := ?_) rfl (by kernel_rfl) (by kernel_rfl) (by kernel_rfl) (fun _ _ _ h => h) (Or.inl ⟨by rfl, ?_⟩) (sK _ LS4.out LX4.out) ?_
            rotate_left
            · (intro wS hSw; (try dsimp only at hSw); go_simp; try with_reducible rfl)
            simp only [Act.put, List.getElem_toArray, List.getElem_cons_zero, List.getElem_cons_succ, List.setIfInBounds_toArray, List.set_cons_zero, List.set_cons_succ]
            refine wpAnyH_done (by kernel_rfl) ?_ _
            go_wp2_with fail
            go_ret
            exact ⟨rfl, E4.out⟩
  · go_wp2_with fail
    go_ret
    exact ⟨rfl, EE.out⟩
theorem walk {A : Option Addr} {c n : Nat} {v : Nat → Nat → Value} {f tt x y z : Int} {w : World} (hl : n ≤ c) (hm : c ≤ maxLen) (hr : RdV w 4 shLeg A n v) (_ : A = none → c = 0) (_ : (Lit.int .i64 f).wf = true) (_ : (Lit.int .i64 tt).wf = true) (_ : (Lit.int .i64 x).wf = true) (_ : (Lit.int .i64 y).wf = true) (_ : (Lit.int .i64 z).wf = true) :
    Calls Try.prog 3 #[.slice A n c, .agg #[.int .i64 f, .int .i64 tt], .agg #[.int .i64 x, .int .i64 y, .int .i64 z]] w fun e w' => e = .returned (.bool true) ∧ Below w.heap.size w w' :=
  walk_f A c n _ _ _ _ f tt x y z w (rdL_of hr) (by have : maxLen ≤ 9223372036854775807 := by decide
                                                    omega)

end Go.Proofs.Ytodfjghgcphhhaa.ganttCounts
