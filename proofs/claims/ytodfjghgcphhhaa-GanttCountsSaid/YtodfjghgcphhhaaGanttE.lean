/- Legs: the chapter's example, drawn. -/
import Derived.Test.YtodfjghgcphhhaaRows
import Derived.Test.YtodfjghgcphhhaaRowKit
import Derived.Test.YtodfjghgcphhhaaRowS
import Derived.Test.YtodfjghgcphhhaaRowZ
import Derived.Test.YtodfjghgcphhhaaRowV
import Derived.Test.YtodfjghgcphhhaaRowW
import Derived.Test.YtodfjghgcphhhaaSlicesEq
import Derived.Test.YtodfjghgcphhhaaBlocks
import Derived.Test.YtodfjghgcphhhaaAtKit
import Derived.Test.YtodfjghgcphhhaaGanttMath
import Derived.Test.YtodfjghgcphhhaaTrackA
import Derived.WalkKit
import Derived.IntWalk
import Derived.Lib.Hide
import Derived.WalkSpells
import Derived.WalkLawsBesides
import Derived.OwnWalk
import Derived.Deep.QuietTactic
import Derived.BigQuiet
import Derived.Deep.RegionHeld3
import Derived.Deep.LoopGhost
import Derived.BigRegion
import Derived.Below
import Derived.Test.YtodfjghgcphhhaaRowL
import Derived.Test.YtodfjghgcphhhaaMakeI
import Derived.Laws.IdiomStrings
import Derived.Laws.CopyOwn
import Derived.Laws.MakeOwn
import Derived.Laws.OwnMore
import Derived.Test.YtodfjghgcphhhaaTrackB
import Derived.Test.YtodfjghgcphhhaaGanttM2
import Derived.Test.YtodfjghgcphhhaaGanttB
import Derived.Test.YtodfjghgcphhhaaGanttC
namespace Go.Proofs.Ytodfjghgcphhhaa
open Go.RowKit
set_option linter.unusedSimpArgs false
set_option linter.unusedVariables false
theorem zero_up (t : Int) : upL (fun _ => 0) (fun _ => 0) (fun _ => 0) (fun _ => false) 1 t = 0 := by unfold upL cameL posL dorL; simp
theorem zero_dn (t : Int) : dnL (fun _ => 0) (fun _ => 0) (fun _ => 0) (fun _ => false) 1 t = 0 := by unfold dnL cameL posL dorL; simp
theorem zero_do (t : Int) : doL (fun _ => 0) (fun _ => false) 1 t = 0 := by unfold doL dorL; simp
theorem sum_zero {f : Int → Int} (h : ∀ t, f t = 0) (a : Int) (m : Nat) : sumF f a m = 0 := by rw [sumF_const f a 0 m (fun _ _ => h _), Int.zero_mul]
theorem fine_zero : FineL (fun _ => 0) (fun _ => 0) (fun _ => 0) 1 := ⟨by omega, fun i hi => absurd hi (by omega), fun i hi => by simp⟩
theorem info8g : (Try.prog.info? 5).map (fun i => (i.zero, i.size, i.bytes)) = some (some (.int .u8 0), 1, 1) := by kernel_rfl
theorem addr_at (g j : Nat) : (⟨g, 0, none⟩ : Addr).add j = ⟨g, j, none⟩ := by unfold Addr.add; split <;> simp_all
theorem conv_dots (w : World) (g c : Nat) (h : ∀ j, j < 3 → w.cell? ⟨g, j, none⟩ = some (.int .u8 46)) : (convert 73 9 (.slice (some ⟨g, 0, none⟩) 3 c)).run Try.prog w = .ok (.string ⟨#[46, 46, 46]⟩) w := by
  have := run_convert_bytes_arg w 73 5 Try.underlying73 Try.underlying5 g 0 3 c [46, 46, 46] rfl (fun i hi => by
    have hh := h i hi
    rw [Nat.zero_add, hh]
    rcases i with _ | _ | _ | i
    · rfl
    · rfl
    · rfl
    · omega) 9 Try.underlying9
  rw [this]; rfl
set_option maxRecDepth 100000 in
set_option maxHeartbeats 4000000 in
theorem span39_0 (w : World) : Calls Try.prog 35 #[.int .i64 0, .int .i64 3, .int .i64 9] w fun e w' => e = .returned (.agg #[.int .i64 0, .int .i64 3]) ∧ Below w.heap.size w w' := by
  have q0 : IntKind.i64.wrap 0 = 0 := rfl
  have q1 : IntKind.i64.wrap 1 = 1 := rfl
  have q3 : IntKind.i64.wrap 3 = 3 := rfl
  have q9 : IntKind.i64.wrap 9 = 9 := rfl
  have m0 : (0 : Int) * 9 = 0 := rfl
  have m1 : (1 : Int) * 9 = 9 := rfl
  have t0 : Int.tdiv 0 3 = 0 := rfl
  have t1 : Int.tdiv 9 3 = 3 := rfl
  go_enter Try.func35, Try.ntmps35
  go_wp2_with fail
  have BQ := Blk.new w #[.int .i64 0, .int .i64 0] 24
  have BE : Below w.heap.size w (w.alloc (.cells #[.int .i64 0, .int .i64 0] 24)) := (Below.refl w.heap.size w).alloc (Nat.le_refl _) _
  obtain ⟨V0, hV0⟩ : ∃ V, (w.alloc (.cells #[.int .i64 0, .int .i64 0] 24)) = V := ⟨_, rfl⟩
  rw [hV0] at BQ BE ⊢
  have HQ := Lib.hid BQ
  have EE := Lib.hid BE
  clear hV0 BE BQ
  have kQ0 : V0.cell? ⟨w.heap.size, 0, none⟩ = some (.int .i64 0) := HQ.out.cell 0
  have kQ1 : V0.cell? ⟨w.heap.size, 1, none⟩ = some (.int .i64 0) := HQ.out.cell 1
  have sK : ∀ X, (fun _ : World => True) X := fun _ => True.intro
  have LQ0 := Lib.hid (HQ.out.drew)
  have E0 := Lib.hid (EE.out.drew)
  clear kQ0 kQ1
  refine wp_region_held_drew (S := (fun _ : World => True)) (by kernel_rfl) True.intro (fun hHeld => ?_)
  clear hHeld
  refine wpAnyH_take (i := 0) (v := ?_) rfl (by kernel_rfl) (by kernel_rfl) (by kernel_rfl) (fun _ _ _ h => h) (Or.inl ⟨by rfl, ?_⟩) True.intro ?_
  rotate_left
  · (intro wS hSw; (try dsimp only at hSw); go_simp; try with_reducible rfl)
  simp only [Act.put, List.getElem_toArray, List.getElem_cons_zero, List.getElem_cons_succ, List.setIfInBounds_toArray, List.set_cons_zero, List.set_cons_succ]
  refine wpAnyH_take (i := 1) (v := ?_) rfl (by kernel_rfl) (by kernel_rfl) (by kernel_rfl) (fun _ _ _ h => h) (Or.inl ⟨by rfl, ?_⟩) True.intro ?_
  rotate_left
  · (intro wS hSw; (try dsimp only at hSw); go_simp; try with_reducible rfl)
  simp only [Act.put, List.getElem_toArray, List.getElem_cons_zero, List.getElem_cons_succ, List.setIfInBounds_toArray, List.set_cons_zero, List.set_cons_succ]
  refine wpAnyH_take (i := 2) (v := ?_) rfl (by kernel_rfl) (by kernel_rfl) (by kernel_rfl) (fun _ _ _ h => h) (Or.inl ⟨by rfl, ?_⟩) True.intro ?_
  rotate_left
  · (intro wS hSw; (try dsimp only at hSw); go_simp; try with_reducible rfl)
  simp only [Act.put, List.getElem_toArray, List.getElem_cons_zero, List.getElem_cons_succ, List.setIfInBounds_toArray, List.set_cons_zero, List.set_cons_succ]
  refine wpAnyH_take (i := 3) (v := ?_) rfl (by kernel_rfl) (by kernel_rfl) (by kernel_rfl) (fun _ _ _ h => h) (Or.inl ⟨by rfl, ?_⟩) True.intro ?_
  rotate_left
  · (intro wS hSw; (try dsimp only at hSw); go_simp; try with_reducible rfl)
  simp only [Act.put, List.getElem_toArray, List.getElem_cons_zero, List.getElem_cons_succ, List.setIfInBounds_toArray, List.set_cons_zero, List.set_cons_succ]
  refine wpAnyH_take (i := 4) (v := ?_) rfl (by kernel_rfl) (by kernel_rfl) (by kernel_rfl) (fun _ _ _ h => h) (Or.inl ⟨by rfl, ?_⟩) True.intro ?_
  rotate_left
  · (intro wS hSw; (try dsimp only at hSw); go_simp; try with_reducible rfl)
  simp only [Act.put, List.getElem_toArray, List.getElem_cons_zero, List.getElem_cons_succ, List.setIfInBounds_toArray, List.set_cons_zero, List.set_cons_succ]
  refine wpAnyH_take (i := 5) (v := ?_) rfl (by kernel_rfl) (by kernel_rfl) (by kernel_rfl) (fun _ _ _ h => h) (Or.inl ⟨by rfl, ?_⟩) True.intro ?_
  rotate_left
  · (intro wS hSw; (try dsimp only at hSw); go_simp; try with_reducible rfl)
  simp only [Act.put, List.getElem_toArray, List.getElem_cons_zero, List.getElem_cons_succ, List.setIfInBounds_toArray, List.set_cons_zero, List.set_cons_succ]
  refine wpAnyH_take (i := 6) (v := ?_) rfl (by kernel_rfl) (by kernel_rfl) (by kernel_rfl) (fun _ _ _ h => h) (Or.inl ⟨by rfl, ?_⟩) True.intro ?_
  rotate_left
  · (intro wS hSw; (try dsimp only at hSw); go_simp; try with_reducible rfl)
  simp only [Act.put, List.getElem_toArray, List.getElem_cons_zero, List.getElem_cons_succ, List.setIfInBounds_toArray, List.set_cons_zero, List.set_cons_succ]
  refine wpAnyH_take (i := 7) (v := ?_) rfl (by kernel_rfl) (by kernel_rfl) (by kernel_rfl) (fun _ _ _ h => h) (Or.inl ⟨by rfl, ?_⟩) True.intro ?_
  rotate_left
  · (intro wS hSw; (try dsimp only at hSw); go_simp; try with_reducible rfl)
  simp only [Act.put, List.getElem_toArray, List.getElem_cons_zero, List.getElem_cons_succ, List.setIfInBounds_toArray, List.set_cons_zero, List.set_cons_succ]
  refine wpAnyH_take (i := 8) (v := ?_) rfl (by kernel_rfl) (by kernel_rfl) (by kernel_rfl) (fun _ _ _ h => h) (Or.inl ⟨by rfl, ?_⟩) True.intro ?_
  rotate_left
  · (intro wS hSw; (try dsimp only at hSw); go_simp; try with_reducible rfl)
  simp only [Act.put, List.getElem_toArray, List.getElem_cons_zero, List.getElem_cons_succ, List.setIfInBounds_toArray, List.set_cons_zero, List.set_cons_succ]
  refine wpAnyH_take (i := 9) (v := ?_) rfl (by kernel_rfl) (by kernel_rfl) (by kernel_rfl) (fun _ _ _ h => h) (Or.inl ⟨by rfl, ?_⟩) True.intro ?_
  rotate_left
  · (intro wS hSw; (try dsimp only at hSw); go_simp; try with_reducible rfl)
  simp only [Act.put, List.getElem_toArray, List.getElem_cons_zero, List.getElem_cons_succ, List.setIfInBounds_toArray, List.set_cons_zero, List.set_cons_succ]
  refine wpAnyH_take (i := 10) (v := ?_) rfl (by kernel_rfl) (by kernel_rfl) (by kernel_rfl) (fun _ _ _ h => h) (Or.inl ⟨by rfl, ?_⟩) True.intro ?_
  rotate_left
  · (intro wS hSw; (try dsimp only at hSw); go_simp; try with_reducible rfl)
  simp only [Act.put, List.getElem_toArray, List.getElem_cons_zero, List.getElem_cons_succ, List.setIfInBounds_toArray, List.set_cons_zero, List.set_cons_succ]
  refine wpAnyH_take (i := 11) (v := ?_) rfl (by kernel_rfl) (by kernel_rfl) (by kernel_rfl) (fun _ _ _ h => h) (Or.inl ⟨by rfl, ?_⟩) True.intro ?_
  rotate_left
  · (intro wS hSw; (try dsimp only at hSw); go_simp; try with_reducible rfl)
  simp only [Act.put, List.getElem_toArray, List.getElem_cons_zero, List.getElem_cons_succ, List.setIfInBounds_toArray, List.set_cons_zero, List.set_cons_succ]
  refine wpAnyH_ready (rs := [12]) (by kernel_rfl) (by simp) ?_
  refine AllReadyH.cons rfl (fun K hK => ?_) AllReadyH.nil
  have s0 : V0.cell? ⟨w.heap.size, 0, none⟩ = some (.int .i64 0) := LQ0.out.cell 0
  have f0 : V0.frozen? ⟨w.heap.size, 0, none⟩ = false := LQ0.out.frozen 0
  have s1 : V0.cell? ⟨w.heap.size, 1, none⟩ = some (.int .i64 0) := LQ0.out.cell 1
  have f1 : V0.frozen? ⟨w.heap.size, 1, none⟩ = false := LQ0.out.frozen 1
  go_simp
  clear s0 f0 s1 f1
  have LQ1 : Blk ((V0.setCell ⟨w.heap.size, 0, none⟩ (.int .i64 0)).setCell ⟨w.heap.size, 1, none⟩ (.int .i64 3)).drew (w.heap.size) 24 #[.int .i64 0, .int .i64 3] := (((Blk.id (w := V0) LQ0.out).set 0 (.int .i64 0)).set 1 (.int .i64 3))
  have E1 : Below w.heap.size w (((V0.setCell ⟨w.heap.size, 0, none⟩ (.int .i64 0)).setCell ⟨w.heap.size, 1, none⟩ (.int .i64 3)).drew) := (((EE.out.setCell (p := ⟨w.heap.size, 0, none⟩) (by show w.heap.size ≤ w.heap.size; omega) (.int .i64 0)).setCell (p := ⟨w.heap.size, 1, none⟩) (by show w.heap.size ≤ w.heap.size; omega) (.int .i64 3))).drew
  obtain ⟨r1, hr1⟩ : ∃ V, ((V0.setCell ⟨w.heap.size, 0, none⟩ (.int .i64 0)).setCell ⟨w.heap.size, 1, none⟩ (.int .i64 3)).drew = V := ⟨_, rfl⟩
  rw [hr1]
  rw [hr1] at LQ1 E1
  clear hr1
  replace LQ1 := Lib.hid LQ1
  replace E1 := Lib.hid E1
  refine hK.out _ _ True.intro (fun hHeld => ?_)
  clear hK K hHeld
  try simp only [Act.put, List.getElem_toArray, List.getElem_cons_zero, List.getElem_cons_succ, List.setIfInBounds_toArray, List.set_cons_zero, List.set_cons_succ]
  refine wpAnyH_done (by kernel_rfl) ?_ _
  have g0 := LQ1.out.cell 0; have g1 := LQ1.out.cell 1
  go_wp2_with fail
  try simp only [Exit.inBlock, Exit.then]
  refine bodyPost_ret (v := .agg #[.int .i64 0, .int .i64 3]) (by simp [results, Try.results35, go_sem, g0, g1]) rfl ⟨rfl, E1.out⟩
set_option maxRecDepth 100000 in
set_option maxHeartbeats 4000000 in
theorem span39_1 (w : World) : Calls Try.prog 35 #[.int .i64 1, .int .i64 3, .int .i64 9] w fun e w' => e = .returned (.agg #[.int .i64 3, .int .i64 6]) ∧ Below w.heap.size w w' := by
  have q2 : IntKind.i64.wrap 2 = 2 := rfl
  have q3 : IntKind.i64.wrap 3 = 3 := rfl
  have q6 : IntKind.i64.wrap 6 = 6 := rfl
  have q9 : IntKind.i64.wrap 9 = 9 := rfl
  have q18 : IntKind.i64.wrap 18 = 18 := rfl
  have m0 : (1 : Int) * 9 = 9 := rfl
  have m1 : (2 : Int) * 9 = 18 := rfl
  have t0 : Int.tdiv 9 3 = 3 := rfl
  have t1 : Int.tdiv 18 3 = 6 := rfl
  go_enter Try.func35, Try.ntmps35
  go_wp2_with fail
  have BQ := Blk.new w #[.int .i64 0, .int .i64 0] 24
  have BE : Below w.heap.size w (w.alloc (.cells #[.int .i64 0, .int .i64 0] 24)) := (Below.refl w.heap.size w).alloc (Nat.le_refl _) _
  obtain ⟨V0, hV0⟩ : ∃ V, (w.alloc (.cells #[.int .i64 0, .int .i64 0] 24)) = V := ⟨_, rfl⟩
  rw [hV0] at BQ BE ⊢
  have HQ := Lib.hid BQ
  have EE := Lib.hid BE
  clear hV0 BE BQ
  have kQ0 : V0.cell? ⟨w.heap.size, 0, none⟩ = some (.int .i64 0) := HQ.out.cell 0
  have kQ1 : V0.cell? ⟨w.heap.size, 1, none⟩ = some (.int .i64 0) := HQ.out.cell 1
  have sK : ∀ X, (fun _ : World => True) X := fun _ => True.intro
  have LQ0 := Lib.hid (HQ.out.drew)
  have E0 := Lib.hid (EE.out.drew)
  clear kQ0 kQ1
  refine wp_region_held_drew (S := (fun _ : World => True)) (by kernel_rfl) True.intro (fun hHeld => ?_)
  clear hHeld
  refine wpAnyH_take (i := 0) (v := ?_) rfl (by kernel_rfl) (by kernel_rfl) (by kernel_rfl) (fun _ _ _ h => h) (Or.inl ⟨by rfl, ?_⟩) True.intro ?_
  rotate_left
  · (intro wS hSw; (try dsimp only at hSw); go_simp; try with_reducible rfl)
  simp only [Act.put, List.getElem_toArray, List.getElem_cons_zero, List.getElem_cons_succ, List.setIfInBounds_toArray, List.set_cons_zero, List.set_cons_succ]
  refine wpAnyH_take (i := 1) (v := ?_) rfl (by kernel_rfl) (by kernel_rfl) (by kernel_rfl) (fun _ _ _ h => h) (Or.inl ⟨by rfl, ?_⟩) True.intro ?_
  rotate_left
  · (intro wS hSw; (try dsimp only at hSw); go_simp; try with_reducible rfl)
  simp only [Act.put, List.getElem_toArray, List.getElem_cons_zero, List.getElem_cons_succ, List.setIfInBounds_toArray, List.set_cons_zero, List.set_cons_succ]
  refine wpAnyH_take (i := 2) (v := ?_) rfl (by kernel_rfl) (by kernel_rfl) (by kernel_rfl) (fun _ _ _ h => h) (Or.inl ⟨by rfl, ?_⟩) True.intro ?_
  rotate_left
  · (intro wS hSw; (try dsimp only at hSw); go_simp; try with_reducible rfl)
  simp only [Act.put, List.getElem_toArray, List.getElem_cons_zero, List.getElem_cons_succ, List.setIfInBounds_toArray, List.set_cons_zero, List.set_cons_succ]
  refine wpAnyH_take (i := 3) (v := ?_) rfl (by kernel_rfl) (by kernel_rfl) (by kernel_rfl) (fun _ _ _ h => h) (Or.inl ⟨by rfl, ?_⟩) True.intro ?_
  rotate_left
  · (intro wS hSw; (try dsimp only at hSw); go_simp; try with_reducible rfl)
  simp only [Act.put, List.getElem_toArray, List.getElem_cons_zero, List.getElem_cons_succ, List.setIfInBounds_toArray, List.set_cons_zero, List.set_cons_succ]
  refine wpAnyH_take (i := 4) (v := ?_) rfl (by kernel_rfl) (by kernel_rfl) (by kernel_rfl) (fun _ _ _ h => h) (Or.inl ⟨by rfl, ?_⟩) True.intro ?_
  rotate_left
  · (intro wS hSw; (try dsimp only at hSw); go_simp; try with_reducible rfl)
  simp only [Act.put, List.getElem_toArray, List.getElem_cons_zero, List.getElem_cons_succ, List.setIfInBounds_toArray, List.set_cons_zero, List.set_cons_succ]
  refine wpAnyH_take (i := 5) (v := ?_) rfl (by kernel_rfl) (by kernel_rfl) (by kernel_rfl) (fun _ _ _ h => h) (Or.inl ⟨by rfl, ?_⟩) True.intro ?_
  rotate_left
  · (intro wS hSw; (try dsimp only at hSw); go_simp; try with_reducible rfl)
  simp only [Act.put, List.getElem_toArray, List.getElem_cons_zero, List.getElem_cons_succ, List.setIfInBounds_toArray, List.set_cons_zero, List.set_cons_succ]
  refine wpAnyH_take (i := 6) (v := ?_) rfl (by kernel_rfl) (by kernel_rfl) (by kernel_rfl) (fun _ _ _ h => h) (Or.inl ⟨by rfl, ?_⟩) True.intro ?_
  rotate_left
  · (intro wS hSw; (try dsimp only at hSw); go_simp; try with_reducible rfl)
  simp only [Act.put, List.getElem_toArray, List.getElem_cons_zero, List.getElem_cons_succ, List.setIfInBounds_toArray, List.set_cons_zero, List.set_cons_succ]
  refine wpAnyH_take (i := 7) (v := ?_) rfl (by kernel_rfl) (by kernel_rfl) (by kernel_rfl) (fun _ _ _ h => h) (Or.inl ⟨by rfl, ?_⟩) True.intro ?_
  rotate_left
  · (intro wS hSw; (try dsimp only at hSw); go_simp; try with_reducible rfl)
  simp only [Act.put, List.getElem_toArray, List.getElem_cons_zero, List.getElem_cons_succ, List.setIfInBounds_toArray, List.set_cons_zero, List.set_cons_succ]
  refine wpAnyH_take (i := 8) (v := ?_) rfl (by kernel_rfl) (by kernel_rfl) (by kernel_rfl) (fun _ _ _ h => h) (Or.inl ⟨by rfl, ?_⟩) True.intro ?_
  rotate_left
  · (intro wS hSw; (try dsimp only at hSw); go_simp; try with_reducible rfl)
  simp only [Act.put, List.getElem_toArray, List.getElem_cons_zero, List.getElem_cons_succ, List.setIfInBounds_toArray, List.set_cons_zero, List.set_cons_succ]
  refine wpAnyH_take (i := 9) (v := ?_) rfl (by kernel_rfl) (by kernel_rfl) (by kernel_rfl) (fun _ _ _ h => h) (Or.inl ⟨by rfl, ?_⟩) True.intro ?_
  rotate_left
  · (intro wS hSw; (try dsimp only at hSw); go_simp; try with_reducible rfl)
  simp only [Act.put, List.getElem_toArray, List.getElem_cons_zero, List.getElem_cons_succ, List.setIfInBounds_toArray, List.set_cons_zero, List.set_cons_succ]
  refine wpAnyH_take (i := 10) (v := ?_) rfl (by kernel_rfl) (by kernel_rfl) (by kernel_rfl) (fun _ _ _ h => h) (Or.inl ⟨by rfl, ?_⟩) True.intro ?_
  rotate_left
  · (intro wS hSw; (try dsimp only at hSw); go_simp; try with_reducible rfl)
  simp only [Act.put, List.getElem_toArray, List.getElem_cons_zero, List.getElem_cons_succ, List.setIfInBounds_toArray, List.set_cons_zero, List.set_cons_succ]
  refine wpAnyH_take (i := 11) (v := ?_) rfl (by kernel_rfl) (by kernel_rfl) (by kernel_rfl) (fun _ _ _ h => h) (Or.inl ⟨by rfl, ?_⟩) True.intro ?_
  rotate_left
  · (intro wS hSw; (try dsimp only at hSw); go_simp; try with_reducible rfl)
  simp only [Act.put, List.getElem_toArray, List.getElem_cons_zero, List.getElem_cons_succ, List.setIfInBounds_toArray, List.set_cons_zero, List.set_cons_succ]
  refine wpAnyH_ready (rs := [12]) (by kernel_rfl) (by simp) ?_
  refine AllReadyH.cons rfl (fun K hK => ?_) AllReadyH.nil
  have s0 : V0.cell? ⟨w.heap.size, 0, none⟩ = some (.int .i64 0) := LQ0.out.cell 0
  have f0 : V0.frozen? ⟨w.heap.size, 0, none⟩ = false := LQ0.out.frozen 0
  have s1 : V0.cell? ⟨w.heap.size, 1, none⟩ = some (.int .i64 0) := LQ0.out.cell 1
  have f1 : V0.frozen? ⟨w.heap.size, 1, none⟩ = false := LQ0.out.frozen 1
  go_simp
  clear s0 f0 s1 f1
  have LQ1 : Blk ((V0.setCell ⟨w.heap.size, 0, none⟩ (.int .i64 3)).setCell ⟨w.heap.size, 1, none⟩ (.int .i64 6)).drew (w.heap.size) 24 #[.int .i64 3, .int .i64 6] := (((Blk.id (w := V0) LQ0.out).set 0 (.int .i64 3)).set 1 (.int .i64 6))
  have E1 : Below w.heap.size w (((V0.setCell ⟨w.heap.size, 0, none⟩ (.int .i64 3)).setCell ⟨w.heap.size, 1, none⟩ (.int .i64 6)).drew) := (((EE.out.setCell (p := ⟨w.heap.size, 0, none⟩) (by show w.heap.size ≤ w.heap.size; omega) (.int .i64 3)).setCell (p := ⟨w.heap.size, 1, none⟩) (by show w.heap.size ≤ w.heap.size; omega) (.int .i64 6))).drew
  obtain ⟨r1, hr1⟩ : ∃ V, ((V0.setCell ⟨w.heap.size, 0, none⟩ (.int .i64 3)).setCell ⟨w.heap.size, 1, none⟩ (.int .i64 6)).drew = V := ⟨_, rfl⟩
  rw [hr1]
  rw [hr1] at LQ1 E1
  clear hr1
  replace LQ1 := Lib.hid LQ1
  replace E1 := Lib.hid E1
  refine hK.out _ _ True.intro (fun hHeld => ?_)
  clear hK K hHeld
  try simp only [Act.put, List.getElem_toArray, List.getElem_cons_zero, List.getElem_cons_succ, List.setIfInBounds_toArray, List.set_cons_zero, List.set_cons_succ]
  refine wpAnyH_done (by kernel_rfl) ?_ _
  have g0 := LQ1.out.cell 0; have g1 := LQ1.out.cell 1
  go_wp2_with fail
  try simp only [Exit.inBlock, Exit.then]
  refine bodyPost_ret (v := .agg #[.int .i64 3, .int .i64 6]) (by simp [results, Try.results35, go_sem, g0, g1]) rfl ⟨rfl, E1.out⟩
set_option maxRecDepth 100000 in
set_option maxHeartbeats 4000000 in
theorem span39_2 (w : World) : Calls Try.prog 35 #[.int .i64 2, .int .i64 3, .int .i64 9] w fun e w' => e = .returned (.agg #[.int .i64 6, .int .i64 9]) ∧ Below w.heap.size w w' := by
  have q3 : IntKind.i64.wrap 3 = 3 := rfl
  have q6 : IntKind.i64.wrap 6 = 6 := rfl
  have q9 : IntKind.i64.wrap 9 = 9 := rfl
  have q18 : IntKind.i64.wrap 18 = 18 := rfl
  have q27 : IntKind.i64.wrap 27 = 27 := rfl
  have m0 : (2 : Int) * 9 = 18 := rfl
  have m1 : (3 : Int) * 9 = 27 := rfl
  have t0 : Int.tdiv 18 3 = 6 := rfl
  have t1 : Int.tdiv 27 3 = 9 := rfl
  go_enter Try.func35, Try.ntmps35
  go_wp2_with fail
  have BQ := Blk.new w #[.int .i64 0, .int .i64 0] 24
  have BE : Below w.heap.size w (w.alloc (.cells #[.int .i64 0, .int .i64 0] 24)) := (Below.refl w.heap.size w).alloc (Nat.le_refl _) _
  obtain ⟨V0, hV0⟩ : ∃ V, (w.alloc (.cells #[.int .i64 0, .int .i64 0] 24)) = V := ⟨_, rfl⟩
  rw [hV0] at BQ BE ⊢
  have HQ := Lib.hid BQ
  have EE := Lib.hid BE
  clear hV0 BE BQ
  have kQ0 : V0.cell? ⟨w.heap.size, 0, none⟩ = some (.int .i64 0) := HQ.out.cell 0
  have kQ1 : V0.cell? ⟨w.heap.size, 1, none⟩ = some (.int .i64 0) := HQ.out.cell 1
  have sK : ∀ X, (fun _ : World => True) X := fun _ => True.intro
  have LQ0 := Lib.hid (HQ.out.drew)
  have E0 := Lib.hid (EE.out.drew)
  clear kQ0 kQ1
  refine wp_region_held_drew (S := (fun _ : World => True)) (by kernel_rfl) True.intro (fun hHeld => ?_)
  clear hHeld
  refine wpAnyH_take (i := 0) (v := ?_) rfl (by kernel_rfl) (by kernel_rfl) (by kernel_rfl) (fun _ _ _ h => h) (Or.inl ⟨by rfl, ?_⟩) True.intro ?_
  rotate_left
  · (intro wS hSw; (try dsimp only at hSw); go_simp; try with_reducible rfl)
  simp only [Act.put, List.getElem_toArray, List.getElem_cons_zero, List.getElem_cons_succ, List.setIfInBounds_toArray, List.set_cons_zero, List.set_cons_succ]
  refine wpAnyH_take (i := 1) (v := ?_) rfl (by kernel_rfl) (by kernel_rfl) (by kernel_rfl) (fun _ _ _ h => h) (Or.inl ⟨by rfl, ?_⟩) True.intro ?_
  rotate_left
  · (intro wS hSw; (try dsimp only at hSw); go_simp; try with_reducible rfl)
  simp only [Act.put, List.getElem_toArray, List.getElem_cons_zero, List.getElem_cons_succ, List.setIfInBounds_toArray, List.set_cons_zero, List.set_cons_succ]
  refine wpAnyH_take (i := 2) (v := ?_) rfl (by kernel_rfl) (by kernel_rfl) (by kernel_rfl) (fun _ _ _ h => h) (Or.inl ⟨by rfl, ?_⟩) True.intro ?_
  rotate_left
  · (intro wS hSw; (try dsimp only at hSw); go_simp; try with_reducible rfl)
  simp only [Act.put, List.getElem_toArray, List.getElem_cons_zero, List.getElem_cons_succ, List.setIfInBounds_toArray, List.set_cons_zero, List.set_cons_succ]
  refine wpAnyH_take (i := 3) (v := ?_) rfl (by kernel_rfl) (by kernel_rfl) (by kernel_rfl) (fun _ _ _ h => h) (Or.inl ⟨by rfl, ?_⟩) True.intro ?_
  rotate_left
  · (intro wS hSw; (try dsimp only at hSw); go_simp; try with_reducible rfl)
  simp only [Act.put, List.getElem_toArray, List.getElem_cons_zero, List.getElem_cons_succ, List.setIfInBounds_toArray, List.set_cons_zero, List.set_cons_succ]
  refine wpAnyH_take (i := 4) (v := ?_) rfl (by kernel_rfl) (by kernel_rfl) (by kernel_rfl) (fun _ _ _ h => h) (Or.inl ⟨by rfl, ?_⟩) True.intro ?_
  rotate_left
  · (intro wS hSw; (try dsimp only at hSw); go_simp; try with_reducible rfl)
  simp only [Act.put, List.getElem_toArray, List.getElem_cons_zero, List.getElem_cons_succ, List.setIfInBounds_toArray, List.set_cons_zero, List.set_cons_succ]
  refine wpAnyH_take (i := 5) (v := ?_) rfl (by kernel_rfl) (by kernel_rfl) (by kernel_rfl) (fun _ _ _ h => h) (Or.inl ⟨by rfl, ?_⟩) True.intro ?_
  rotate_left
  · (intro wS hSw; (try dsimp only at hSw); go_simp; try with_reducible rfl)
  simp only [Act.put, List.getElem_toArray, List.getElem_cons_zero, List.getElem_cons_succ, List.setIfInBounds_toArray, List.set_cons_zero, List.set_cons_succ]
  refine wpAnyH_take (i := 6) (v := ?_) rfl (by kernel_rfl) (by kernel_rfl) (by kernel_rfl) (fun _ _ _ h => h) (Or.inl ⟨by rfl, ?_⟩) True.intro ?_
  rotate_left
  · (intro wS hSw; (try dsimp only at hSw); go_simp; try with_reducible rfl)
  simp only [Act.put, List.getElem_toArray, List.getElem_cons_zero, List.getElem_cons_succ, List.setIfInBounds_toArray, List.set_cons_zero, List.set_cons_succ]
  refine wpAnyH_take (i := 7) (v := ?_) rfl (by kernel_rfl) (by kernel_rfl) (by kernel_rfl) (fun _ _ _ h => h) (Or.inl ⟨by rfl, ?_⟩) True.intro ?_
  rotate_left
  · (intro wS hSw; (try dsimp only at hSw); go_simp; try with_reducible rfl)
  simp only [Act.put, List.getElem_toArray, List.getElem_cons_zero, List.getElem_cons_succ, List.setIfInBounds_toArray, List.set_cons_zero, List.set_cons_succ]
  refine wpAnyH_take (i := 8) (v := ?_) rfl (by kernel_rfl) (by kernel_rfl) (by kernel_rfl) (fun _ _ _ h => h) (Or.inl ⟨by rfl, ?_⟩) True.intro ?_
  rotate_left
  · (intro wS hSw; (try dsimp only at hSw); go_simp; try with_reducible rfl)
  simp only [Act.put, List.getElem_toArray, List.getElem_cons_zero, List.getElem_cons_succ, List.setIfInBounds_toArray, List.set_cons_zero, List.set_cons_succ]
  refine wpAnyH_take (i := 9) (v := ?_) rfl (by kernel_rfl) (by kernel_rfl) (by kernel_rfl) (fun _ _ _ h => h) (Or.inl ⟨by rfl, ?_⟩) True.intro ?_
  rotate_left
  · (intro wS hSw; (try dsimp only at hSw); go_simp; try with_reducible rfl)
  simp only [Act.put, List.getElem_toArray, List.getElem_cons_zero, List.getElem_cons_succ, List.setIfInBounds_toArray, List.set_cons_zero, List.set_cons_succ]
  refine wpAnyH_take (i := 10) (v := ?_) rfl (by kernel_rfl) (by kernel_rfl) (by kernel_rfl) (fun _ _ _ h => h) (Or.inl ⟨by rfl, ?_⟩) True.intro ?_
  rotate_left
  · (intro wS hSw; (try dsimp only at hSw); go_simp; try with_reducible rfl)
  simp only [Act.put, List.getElem_toArray, List.getElem_cons_zero, List.getElem_cons_succ, List.setIfInBounds_toArray, List.set_cons_zero, List.set_cons_succ]
  refine wpAnyH_take (i := 11) (v := ?_) rfl (by kernel_rfl) (by kernel_rfl) (by kernel_rfl) (fun _ _ _ h => h) (Or.inl ⟨by rfl, ?_⟩) True.intro ?_
  rotate_left
  · (intro wS hSw; (try dsimp only at hSw); go_simp; try with_reducible rfl)
  simp only [Act.put, List.getElem_toArray, List.getElem_cons_zero, List.getElem_cons_succ, List.setIfInBounds_toArray, List.set_cons_zero, List.set_cons_succ]
  refine wpAnyH_ready (rs := [12]) (by kernel_rfl) (by simp) ?_
  refine AllReadyH.cons rfl (fun K hK => ?_) AllReadyH.nil
  have s0 : V0.cell? ⟨w.heap.size, 0, none⟩ = some (.int .i64 0) := LQ0.out.cell 0
  have f0 : V0.frozen? ⟨w.heap.size, 0, none⟩ = false := LQ0.out.frozen 0
  have s1 : V0.cell? ⟨w.heap.size, 1, none⟩ = some (.int .i64 0) := LQ0.out.cell 1
  have f1 : V0.frozen? ⟨w.heap.size, 1, none⟩ = false := LQ0.out.frozen 1
  go_simp
  clear s0 f0 s1 f1
  have LQ1 : Blk ((V0.setCell ⟨w.heap.size, 0, none⟩ (.int .i64 6)).setCell ⟨w.heap.size, 1, none⟩ (.int .i64 9)).drew (w.heap.size) 24 #[.int .i64 6, .int .i64 9] := (((Blk.id (w := V0) LQ0.out).set 0 (.int .i64 6)).set 1 (.int .i64 9))
  have E1 : Below w.heap.size w (((V0.setCell ⟨w.heap.size, 0, none⟩ (.int .i64 6)).setCell ⟨w.heap.size, 1, none⟩ (.int .i64 9)).drew) := (((EE.out.setCell (p := ⟨w.heap.size, 0, none⟩) (by show w.heap.size ≤ w.heap.size; omega) (.int .i64 6)).setCell (p := ⟨w.heap.size, 1, none⟩) (by show w.heap.size ≤ w.heap.size; omega) (.int .i64 9))).drew
  obtain ⟨r1, hr1⟩ : ∃ V, ((V0.setCell ⟨w.heap.size, 0, none⟩ (.int .i64 6)).setCell ⟨w.heap.size, 1, none⟩ (.int .i64 9)).drew = V := ⟨_, rfl⟩
  rw [hr1]
  rw [hr1] at LQ1 E1
  clear hr1
  replace LQ1 := Lib.hid LQ1
  replace E1 := Lib.hid E1
  refine hK.out _ _ True.intro (fun hHeld => ?_)
  clear hK K hHeld
  try simp only [Act.put, List.getElem_toArray, List.getElem_cons_zero, List.getElem_cons_succ, List.setIfInBounds_toArray, List.set_cons_zero, List.set_cons_succ]
  refine wpAnyH_done (by kernel_rfl) ?_ _
  have g0 := LQ1.out.cell 0; have g1 := LQ1.out.cell 1
  go_wp2_with fail
  try simp only [Exit.inBlock, Exit.then]
  refine bodyPost_ret (v := .agg #[.int .i64 6, .int .i64 9]) (by simp [results, Try.results35, go_sem, g0, g1]) rfl ⟨rfl, E1.out⟩
set_option maxRecDepth 100000 in
set_option maxHeartbeats 8000000 in
theorem row_ex (A : Option Addr) (c : Nat) (w : World) (hr : RdL w A 1 (fun _ => 0) (fun _ => 0) (fun _ => 0) (fun _ => false)) :
    Calls Try.prog 25 #[.slice A 1 c, .int .i64 3, .int .i64 9] w fun e w' => e = .returned (.string ⟨#[46, 46, 46]⟩) ∧ Below w.heap.size w w' := by
  obtain ⟨i0, hi, hz0, hz1, hz2⟩ := info_parts info8g
  have HR := Lib.hid hr
  have KC := Lib.hid (fun (f tt : Int) W hr (h1 : 0 ≤ f) (h2 : f ≤ 10) (h3 : 0 ≤ tt) (h4 : tt ≤ f + 3) => (gcount_any A c 1 (fun _ => 0) (fun _ => 0) (fun _ => 0) (fun _ => false) f tt W hr fine_zero (by omega) (by omega) (by omega) (by omega)).mono (fun e w' (h : CntR (fun _ => 0) (fun _ => 0) (fun _ => 0) (fun _ => false) 1 f tt W e w') => show e = .returned (.tuple #[.int .i64 0, .int .i64 0, .int .i64 0]) ∧ Below W.heap.size W w' from by
    unfold CntR at h
    rw [sum_zero zero_up, sum_zero zero_dn, sum_zero zero_do] at h
    exact h))
  have KM := Lib.hid (fun W => (mark_any 0 0 0 W).mono (fun e w' (h : e = .returned (.int .u8 (markV 0 0 0)) ∧ Below W.heap.size W w') => show e = .returned (.int .u8 46) ∧ Below W.heap.size W w' from h))
  clear hr
  go_enter Try.func25, Try.ntmps25
  go_wp2_with fail
  go_loopw [7, 12] (fun v i wr => ∃ k : Nat, k ≤ 3 ∧ i = .int .i64 k ∧ wr.ownsRow w.heap.size 5 1 v k ((List.replicate k (46 : Int)).map (Value.int .u8)) ∧ Below w.heap.size w wr) (fun _ i _ => 3 - (intOf i).toNat)
  case atStart => exact ⟨0, by omega, rfl, ⟨rfl, Or.inl ⟨rfl, rfl⟩⟩, Below.refl _ _⟩
  case round =>
    obtain ⟨k, hk, rfl, hown, hB⟩ := hrel
    have HO := Lib.hid hown; have EE := Lib.hid hB
    clear hown hB
    rcases (show k = 0 ∨ k = 1 ∨ k = 2 ∨ k = 3 by omega) with rfl | rfl | rfl | rfl
    · go_wp2_with fail
      refine (span39_0 _).mono ?_
      rintro e w1 ⟨rfl, hb⟩
      have E1 := Lib.hid (EE.out.trans (hb.mono EE.out.size))
      have O1 := Lib.hid (mkOwn_below HO.out hb)
      clear hb
      go_wp2_with fail
      refine (KC.out 0 3 _ (HR.out.kept E1.out) (by omega) (by omega) (by omega) (by omega)).mono ?_
      rintro e w2 ⟨rfl, hb⟩
      have E2 := Lib.hid (E1.out.trans (hb.mono E1.out.size))
      have O2 := Lib.hid (mkOwn_below O1.out hb)
      clear hb
      go_wp2_with fail
      refine (KM.out _).mono ?_
      rintro e w3 ⟨rfl, hb⟩
      have E3 := Lib.hid (E2.out.trans (hb.mono E2.out.size))
      have O3 := Lib.hid (mkOwn_below O2.out hb)
      clear hb
      go_wp2_with (at_builtin; refine wpList_append_own _ rfl _ _ 73 rfl w.heap.size 5 i0 (.int .u8 0) 1 1 Try.underlying73 hi hz0 hz1 hz2 rfl (by decide) _ _ _ rfl (O3.out.alloc _) ⟨_, 0, none⟩ 1 1 [.int .u8 46] rfl rfl one_newR (by intro u hu; simp at hu; subst hu; rfl) (by unfold maxLen; omega) (by omega) (by have := E3.out.size; simp; omega) ?_; intro v' w4 hown' hgrow _)
      have E4 : Below w.heap.size w w4 := by
        refine (E3.out.alloc E3.out.size _).grown hgrow (by have := E3.out.size; simp; omega) (fun g hg => ?_)
        first | exact ownR_ge O3.out hg | exact ownR_ge O3.out hg.symm
      have O4 : w4.ownsRow w.heap.size 5 1 v' 1 ((List.replicate 1 (46 : Int)).map (Value.int .u8)) := hown'
      clear hown' hgrow
      go_wp2_with fail
      go_roundw
      case rel => exact ⟨1, by omega, by go_num, O4, E4⟩
      case measure => simp [intOf]
    · go_wp2_with fail
      refine (span39_1 _).mono ?_
      rintro e w1 ⟨rfl, hb⟩
      have E1 := Lib.hid (EE.out.trans (hb.mono EE.out.size))
      have O1 := Lib.hid (mkOwn_below HO.out hb)
      clear hb
      go_wp2_with fail
      refine (KC.out 3 6 _ (HR.out.kept E1.out) (by omega) (by omega) (by omega) (by omega)).mono ?_
      rintro e w2 ⟨rfl, hb⟩
      have E2 := Lib.hid (E1.out.trans (hb.mono E1.out.size))
      have O2 := Lib.hid (mkOwn_below O1.out hb)
      clear hb
      go_wp2_with fail
      refine (KM.out _).mono ?_
      rintro e w3 ⟨rfl, hb⟩
      have E3 := Lib.hid (E2.out.trans (hb.mono E2.out.size))
      have O3 := Lib.hid (mkOwn_below O2.out hb)
      clear hb
      go_wp2_with (at_builtin; refine wpList_append_own _ rfl _ _ 73 rfl w.heap.size 5 i0 (.int .u8 0) 1 1 Try.underlying73 hi hz0 hz1 hz2 rfl (by decide) _ _ _ rfl (O3.out.alloc _) ⟨_, 0, none⟩ 1 1 [.int .u8 46] rfl rfl one_newR (by intro u hu; simp at hu; subst hu; rfl) (by unfold maxLen; omega) (by omega) (by have := E3.out.size; simp; omega) ?_; intro v' w4 hown' hgrow _)
      have E4 : Below w.heap.size w w4 := by
        refine (E3.out.alloc E3.out.size _).grown hgrow (by have := E3.out.size; simp; omega) (fun g hg => ?_)
        first | exact ownR_ge O3.out hg | exact ownR_ge O3.out hg.symm
      have O4 : w4.ownsRow w.heap.size 5 1 v' 2 ((List.replicate 2 (46 : Int)).map (Value.int .u8)) := hown'
      clear hown' hgrow
      go_wp2_with fail
      go_roundw
      case rel => exact ⟨2, by omega, by go_num, O4, E4⟩
      case measure => simp [intOf]
    · go_wp2_with fail
      refine (span39_2 _).mono ?_
      rintro e w1 ⟨rfl, hb⟩
      have E1 := Lib.hid (EE.out.trans (hb.mono EE.out.size))
      have O1 := Lib.hid (mkOwn_below HO.out hb)
      clear hb
      go_wp2_with fail
      refine (KC.out 6 9 _ (HR.out.kept E1.out) (by omega) (by omega) (by omega) (by omega)).mono ?_
      rintro e w2 ⟨rfl, hb⟩
      have E2 := Lib.hid (E1.out.trans (hb.mono E1.out.size))
      have O2 := Lib.hid (mkOwn_below O1.out hb)
      clear hb
      go_wp2_with fail
      refine (KM.out _).mono ?_
      rintro e w3 ⟨rfl, hb⟩
      have E3 := Lib.hid (E2.out.trans (hb.mono E2.out.size))
      have O3 := Lib.hid (mkOwn_below O2.out hb)
      clear hb
      go_wp2_with (at_builtin; refine wpList_append_own _ rfl _ _ 73 rfl w.heap.size 5 i0 (.int .u8 0) 1 1 Try.underlying73 hi hz0 hz1 hz2 rfl (by decide) _ _ _ rfl (O3.out.alloc _) ⟨_, 0, none⟩ 1 1 [.int .u8 46] rfl rfl one_newR (by intro u hu; simp at hu; subst hu; rfl) (by unfold maxLen; omega) (by omega) (by have := E3.out.size; simp; omega) ?_; intro v' w4 hown' hgrow _)
      have E4 : Below w.heap.size w w4 := by
        refine (E3.out.alloc E3.out.size _).grown hgrow (by have := E3.out.size; simp; omega) (fun g hg => ?_)
        first | exact ownR_ge O3.out hg | exact ownR_ge O3.out hg.symm
      have O4 : w4.ownsRow w.heap.size 5 1 v' 3 ((List.replicate 3 (46 : Int)).map (Value.int .u8)) := hown'
      clear hown' hgrow
      go_wp2_with fail
      go_roundw
      case rel => exact ⟨3, by omega, by go_num, O4, E4⟩
      case measure => simp [intOf]
    · obtain ⟨g, cap, rfl, hg, hc⟩ := ownR_head HO.out (by omega)
      obtain ⟨A', c', h1, h2⟩ := ownR_rd (ys := List.replicate 3 (46 : Int)) HO.out (fun i hi => by
        have : zat (List.replicate 3 (46 : Int)) i = 46 := by
          rcases i with _ | _ | _ | i
          · rfl
          · rfl
          · rfl
          · simp at hi; omega
        rw [this]; rfl)
      have CV := conv_dots wr g cap (fun j hj => by
        obtain ⟨a, ea, _, hcl, _⟩ := h2 j (by simpa using hj)
        simp only [Value.slice.injEq] at h1
        obtain ⟨q1, _, _⟩ := h1
        rw [← q1] at ea
        cases ea
        have hz : zat (List.replicate 3 (46 : Int)) j = 46 := by
          rcases j with _ | _ | _ | j
          · rfl
          · rfl
          · rfl
          · omega
        rw [hz] at hcl
        rw [addr_at] at hcl
        exact hcl)
      clear h1 h2
      go_wp2_with fail
      go_ret
      exact ⟨rfl, EE.out⟩
set_option maxRecDepth 100000 in
set_option maxHeartbeats 8000000 in
theorem alive71 (w : World) : Calls Try.prog 12 #[] w fun e w' => e = .returned (.bool true) ∧ Below w.heap.size w w' := by
  have KR := Lib.hid (fun A W hr => row_ex A 1 W hr)
  have BL := Blk.new w #[.int .i64 0, .int .i64 0, .int .i64 0, .bool false] 47
  have BE := Lib.hid ((Below.refl w.heap.size w).alloc (Nat.le_refl _) (.cells #[.int .i64 0, .int .i64 0, .int .i64 0, .bool false] 47))
  have HRL : Hid (RdL (w.alloc (.cells #[.int .i64 0, .int .i64 0, .int .i64 0, .bool false] 47)) (some ⟨w.heap.size, 0, none⟩) 1 (fun _ => 0) (fun _ => 0) (fun _ => 0) (fun _ => false)) := Lib.hid (by
    intro i hi
    obtain rfl : i = 0 := by omega
    refine ⟨_, rfl, by simp, fun j hj => ?_⟩
    rcases j with _ | _ | _ | _ | j
    · exact ⟨BL.cell 0, 0, rfl, rfl⟩
    · exact ⟨BL.cell 1, 0, rfl, rfl⟩
    · exact ⟨BL.cell 2, 0, rfl, rfl⟩
    · exact ⟨BL.cell 3, false, rfl⟩
    · omega)
  clear BL
  go_enter Try.func12, Try.ntmps12
  go_wp2_with fail
  refine (KR.out _ _ HRL.out).mono ?_
  rintro e w1 ⟨rfl, hb⟩
  have E1 := Lib.hid (BE.out.trans (hb.mono BE.out.size))
  clear hb
  go_wp2_with fail
  go_ret
  exact ⟨rfl, E1.out⟩
end Go.Proofs.Ytodfjghgcphhhaa
