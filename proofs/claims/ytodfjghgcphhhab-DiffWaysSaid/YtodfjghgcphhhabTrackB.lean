/- Legs: where a car is behind a tick: the document's, and the program's. -/
import Derived.Test.YtodfjghgcphhhabRows
import Derived.Test.YtodfjghgcphhhabRowKit
import Derived.Test.YtodfjghgcphhhabRowS
import Derived.Test.YtodfjghgcphhhabRowZ
import Derived.Test.YtodfjghgcphhhabRowV
import Derived.Test.YtodfjghgcphhhabRowW
import Derived.Test.YtodfjghgcphhhabSlicesEq
import Derived.Test.YtodfjghgcphhhabBlocks
import Derived.Test.YtodfjghgcphhhabAtKit
import Derived.Test.YtodfjghgcphhhabGanttMath
import Derived.Test.YtodfjghgcphhhabTrackA
import Derived.WalkKit
import Derived.IntWalk
import Derived.Lib.Hide
import Derived.WalkSpells
import Derived.WalkLawsBesides
import Derived.OwnWalk
import Derived.Deep.QuietTactic
import Derived.BigQuiet
import Derived.Deep.RegionHeld3
import Derived.Deep.LoopGhost
import Derived.BigRegion
import Derived.Below
namespace Go.Proofs.Ytodfjghgcphhhab
open Go.RowKit
set_option linter.unusedSimpArgs false
set_option linter.unusedVariables false
set_option maxRecDepth 100000 in
set_option maxHeartbeats 4000000 in
theorem dat_any (A : Option Addr) (c n : Nat) (T P D : Nat → Int) (O : Nat → Bool) (t : Int) (w : World) (hr : RdL w A n T P D O) (hf : FineL T P D n) (t1 : -1073741826 ≤ t) (t2 : t ≤ 1073741826) :
    Calls Try.prog 8 #[.slice A n c, .int .i64 t] w fun e w' => e = .returned (.tuple #[.agg #[.int .i64 (posL T P D t (lastL T t n)), .bool (dorL O (lastL T t n))], .bool (decide (0 < lastL T t n))]) ∧ Below w.heap.size w w' := by
  have HR := Lib.hid hr; have HF := Lib.hid hf
  have hn : n ≤ 60 := hf.1
  clear hr hf
  go_enter Try.func8, Try.ntmps8
  go_wp2_with fail
  have BQ := (Blk.new w #[.int .i64 0, .bool false] 25).alloc (.cells #[.int .i64 0, .bool false] 25)
  have BU := Blk.new (w.alloc (.cells #[.int .i64 0, .bool false] 25)) #[.int .i64 0, .bool false] 25
  rw [World.size_alloc] at BU
  have BE : Below w.heap.size w ((w.alloc (.cells #[.int .i64 0, .bool false] 25)).alloc (.cells #[.int .i64 0, .bool false] 25)) := ((Below.refl w.heap.size w).alloc (Nat.le_refl _) _).alloc (by simp <;> omega) _
  obtain ⟨V0, hV0⟩ : ∃ V, ((w.alloc (.cells #[.int .i64 0, .bool false] 25)).alloc (.cells #[.int .i64 0, .bool false] 25)) = V := ⟨_, rfl⟩
  rw [hV0] at BQ BU BE ⊢
  have HQ := Lib.hid BQ
  have HU := Lib.hid BU
  have EE := Lib.hid BE
  have ne0_1 : w.heap.size ≠ w.heap.size + 1 := by omega
  have ne1_0 : w.heap.size + 1 ≠ w.heap.size := by omega
  clear hV0 BE BQ BU
  have kQ0 : V0.cell? ⟨w.heap.size, 0, none⟩ = some (.int .i64 0) := HQ.out.cell 0
  have kQ1 : V0.cell? ⟨w.heap.size, 1, none⟩ = some (.bool false) := HQ.out.cell 1
  have kU0 : V0.cell? ⟨w.heap.size + 1, 0, none⟩ = some (.int .i64 0) := HU.out.cell 0
  have kU1 : V0.cell? ⟨w.heap.size + 1, 1, none⟩ = some (.bool false) := HU.out.cell 1
  clear kQ0 kQ1 kU0 kU1
  go_loopw [7, 8] (fun s i wr => ∃ k : Nat, k ≤ n ∧ s = .bool (decide (0 < lastL T t k)) ∧ i = .int .i64 k ∧ Blk wr (w.heap.size + 1) 25 #[.int .i64 (posL T P D t (lastL T t k)), .bool (dorL O (lastL T t k))] ∧ Blk wr w.heap.size 25 #[.int .i64 0, .bool false] ∧ Below w.heap.size w wr) (fun s i _ => n - (intOf i).toNat)
  case atStart => exact ⟨0, by omega, rfl, rfl, HU.out, HQ.out, EE.out⟩
  case round =>
    obtain ⟨k, hk, rfl, rfl, hU, hR, hB⟩ := hrel
    have HU := Lib.hid hU; have HQ := Lib.hid hR; have EE := Lib.hid hB
    clear hU hR hB
    by_cases h : k < n
    · obtain ⟨f1, f2, f3, f4, f5, f6⟩ := HF.out.2.2 k h
      have es := lastL_succ T t k
      obtain ⟨pu, hpu⟩ : ∃ q, posL T P D t (lastL T t k) = q := ⟨_, rfl⟩
      obtain ⟨du, hdu⟩ : ∃ q, dorL O (lastL T t k) = q := ⟨_, rfl⟩
      have HPU := Lib.hid hpu; have HDU := Lib.hid hdu
      rw [hpu, hdu] at HU
      obtain ⟨b, o, rfl, hbl, hcell⟩ := rdL_row HR.out (by omega)
      obtain ⟨c0, c1, c2, c3⟩ := hcell k h
      have hA := (at4 c0 c1 c2 c3).next EE.out
      have HA := Lib.hid hA
      clear c0 c1 c2 c3 hcell hA
      obtain ⟨tk, htk⟩ : ∃ q, T k = q := ⟨_, rfl⟩
      obtain ⟨pk, hpk⟩ : ∃ q, P k = q := ⟨_, rfl⟩
      obtain ⟨dk, hdk⟩ : ∃ q, D k = q := ⟨_, rfl⟩
      obtain ⟨ok, hok⟩ : ∃ q, O k = q := ⟨_, rfl⟩
      have HTK := Lib.hid htk; have HPK := Lib.hid hpk; have HDK := Lib.hid hdk; have HOK := Lib.hid hok
      rw [htk, hpk, hdk, hok] at HA
      rw [htk] at f5 f6 es; rw [hpk] at f3 f4; rw [hdk] at f1 f2
      clear htk hpk hdk hok hpu hdu
      by_cases c1 : tk ≤ t
      · rw [if_pos c1] at es
        have ES := Lib.hid es
        clear es
        have bd := dmul_bd (x := t - tk) f1 f2 (B := 2147483652) (by omega) (by omega)
        obtain ⟨m, hm⟩ : ∃ q, dk * (t - tk) = q := ⟨_, rfl⟩
        rw [hm] at bd
        have w1 : IntKind.i64.wrap (t - tk) = t - tk := IntWalk.i64_in _ (by omega)
        have w2 : IntKind.i64.wrap (dk * (t - tk)) = m := by rw [hm]; exact IntWalk.i64_in _ (by omega)
        have w3 : IntKind.i64.wrap (pk + m) = pk + m := IntWalk.i64_in _ (by omega)
        have HM := Lib.hid hm; clear hm
        have kU0 : wr.cell? ⟨w.heap.size + 1, 0, none⟩ = some (.int .i64 pu) := HU.out.cell 0
        have kU1 : wr.cell? ⟨w.heap.size + 1, 1, none⟩ = some (.bool du) := HU.out.cell 1
        have kQ0 : wr.cell? ⟨w.heap.size, 0, none⟩ = some (.int .i64 0) := HQ.out.cell 0
        have kQ1 : wr.cell? ⟨w.heap.size, 1, none⟩ = some (.bool false) := HQ.out.cell 1
        have kA0 : wr.cell? ⟨b, o + k * 4, none⟩ = some (.int .i64 tk) := HA.out 0 _ rfl
        have kA1 : wr.cell? ⟨b, o + k * 4 + 1, none⟩ = some (.int .i64 pk) := HA.out 1 _ rfl
        have kA2 : wr.cell? ⟨b, o + k * 4 + 2, none⟩ = some (.int .i64 dk) := HA.out 2 _ rfl
        have kA3 : wr.cell? ⟨b, o + k * 4 + 3, none⟩ = some (.bool ok) := HA.out 3 _ rfl
        go_wp2_with fail
        have sK : ∀ X, At X b (o + k * 4) #[.int .i64 tk, .int .i64 pk, .int .i64 dk, .bool ok] → (fun X => X.cell? ⟨b, o + k * 4, none⟩ = some (.int .i64 tk) ∧ X.cell? ⟨b, o + k * 4 + 1, none⟩ = some (.int .i64 pk) ∧ X.cell? ⟨b, o + k * 4 + 2, none⟩ = some (.int .i64 dk) ∧ X.cell? ⟨b, o + k * 4 + 3, none⟩ = some (.bool ok)) X := fun X hA => ⟨hA 0 _ rfl, hA 1 _ rfl, hA 2 _ rfl, hA 3 _ rfl⟩
        have LU0 := Lib.hid (HU.out.drew)
        have LQ0 := Lib.hid (HQ.out.drew)
        have LA0 := Lib.hid (HA.out.drew)
        have E0 := Lib.hid (EE.out.drew)
        clear kU0 kU1 kQ0 kQ1 kA0 kA1 kA2 kA3
        refine wp_region_held_drew (S := (fun X => X.cell? ⟨b, o + k * 4, none⟩ = some (.int .i64 tk) ∧ X.cell? ⟨b, o + k * 4 + 1, none⟩ = some (.int .i64 pk) ∧ X.cell? ⟨b, o + k * 4 + 2, none⟩ = some (.int .i64 dk) ∧ X.cell? ⟨b, o + k * 4 + 3, none⟩ = some (.bool ok))) (by kernel_rfl) (sK _ LA0.out) (fun hHeld => ?_)
        clear hHeld
        refine wpAnyH_take (i := 0) (v := ?_) rfl (by kernel_rfl) (by kernel_rfl) (by kernel_rfl) (fun _ _ _ h => h) (Or.inl ⟨by rfl, ?_⟩) (sK _ LA0.out) ?_
        rotate_left
        · (intro wS hSw; (try dsimp only at hSw); go_simp; try with_reducible rfl)
        simp only [Act.put, List.getElem_toArray, List.getElem_cons_zero, List.getElem_cons_succ, List.setIfInBounds_toArray, List.set_cons_zero, List.set_cons_succ]
        refine wpAnyH_take (i := 1) (v := ?_) rfl (by kernel_rfl) (by kernel_rfl) (by kernel_rfl) (fun _ _ _ h => h) (Or.inl ⟨by rfl, ?_⟩) (sK _ LA0.out) ?_
        rotate_left
        · (intro wS hSw; (try dsimp only at hSw); go_simp; try with_reducible rfl)
        simp only [Act.put, List.getElem_toArray, List.getElem_cons_zero, List.getElem_cons_succ, List.setIfInBounds_toArray, List.set_cons_zero, List.set_cons_succ]
        refine wpAnyH_take (i := 2) (v := ?_) rfl (by kernel_rfl) (by kernel_rfl) (by kernel_rfl) (fun _ _ _ h => h) (Or.inl ⟨by rfl, ?_⟩) (sK _ LA0.out) ?_
        rotate_left
        · (intro wS hSw; (try dsimp only at hSw); go_simp; try with_reducible rfl)
        simp only [Act.put, List.getElem_toArray, List.getElem_cons_zero, List.getElem_cons_succ, List.setIfInBounds_toArray, List.set_cons_zero, List.set_cons_succ]
        refine wpAnyH_take (i := 3) (v := ?_) rfl (by kernel_rfl) (by kernel_rfl) (by kernel_rfl) (fun _ _ _ h => h) (Or.inl ⟨by rfl, ?_⟩) (sK _ LA0.out) ?_
        rotate_left
        · (intro wS hSw; (try dsimp only at hSw); go_simp; try with_reducible rfl)
        simp only [Act.put, List.getElem_toArray, List.getElem_cons_zero, List.getElem_cons_succ, List.setIfInBounds_toArray, List.set_cons_zero, List.set_cons_succ]
        refine wpAnyH_take (i := 4) (v := ?_) rfl (by kernel_rfl) (by kernel_rfl) (by kernel_rfl) (fun _ _ _ h => h) (Or.inl ⟨by rfl, ?_⟩) (sK _ LA0.out) ?_
        rotate_left
        · (intro wS hSw; (try dsimp only at hSw); go_simp; try with_reducible rfl)
        simp only [Act.put, List.getElem_toArray, List.getElem_cons_zero, List.getElem_cons_succ, List.setIfInBounds_toArray, List.set_cons_zero, List.set_cons_succ]
        refine wpAnyH_take (i := 5) (v := ?_) rfl (by kernel_rfl) (by kernel_rfl) (by kernel_rfl) (fun _ _ _ h => h) (Or.inl ⟨by rfl, ?_⟩) (sK _ LA0.out) ?_
        rotate_left
        · (intro wS hSw; (try dsimp only at hSw); go_simp; try with_reducible rfl)
        simp only [Act.put, List.getElem_toArray, List.getElem_cons_zero, List.getElem_cons_succ, List.setIfInBounds_toArray, List.set_cons_zero, List.set_cons_succ]
        refine wpAnyH_take (i := 6) (v := ?_) rfl (by kernel_rfl) (by kernel_rfl) (by kernel_rfl) (fun _ _ _ h => h) (Or.inl ⟨by rfl, ?_⟩) (sK _ LA0.out) ?_
        rotate_left
        · (intro wS hSw; (try dsimp only at hSw); go_simp; try with_reducible rfl)
        simp only [Act.put, List.getElem_toArray, List.getElem_cons_zero, List.getElem_cons_succ, List.setIfInBounds_toArray, List.set_cons_zero, List.set_cons_succ]
        refine wpAnyH_take (i := 7) (v := ?_) rfl (by kernel_rfl) (by kernel_rfl) (by kernel_rfl) (fun _ _ _ h => h) (Or.inl ⟨by rfl, ?_⟩) (sK _ LA0.out) ?_
        rotate_left
        · (intro wS hSw; (try dsimp only at hSw); go_simp; try with_reducible rfl)
        simp only [Act.put, List.getElem_toArray, List.getElem_cons_zero, List.getElem_cons_succ, List.setIfInBounds_toArray, List.set_cons_zero, List.set_cons_succ]
        refine wpAnyH_take (i := 8) (v := ?_) rfl (by kernel_rfl) (by kernel_rfl) (by kernel_rfl) (fun _ _ _ h => h) (Or.inl ⟨by rfl, ?_⟩) (sK _ LA0.out) ?_
        rotate_left
        · (intro wS hSw; (try dsimp only at hSw); go_simp; try with_reducible rfl)
        simp only [Act.put, List.getElem_toArray, List.getElem_cons_zero, List.getElem_cons_succ, List.setIfInBounds_toArray, List.set_cons_zero, List.set_cons_succ]
        refine wpAnyH_take (i := 9) (v := ?_) rfl (by kernel_rfl) (by kernel_rfl) (by kernel_rfl) (fun _ _ _ h => h) (Or.inl ⟨by rfl, ?_⟩) (sK _ LA0.out) ?_
        rotate_left
        · (intro wS hSw; (try dsimp only at hSw); go_simp; try with_reducible rfl)
        simp only [Act.put, List.getElem_toArray, List.getElem_cons_zero, List.getElem_cons_succ, List.setIfInBounds_toArray, List.set_cons_zero, List.set_cons_succ]
        refine wpAnyH_take (i := 10) (v := ?_) rfl (by kernel_rfl) (by kernel_rfl) (by kernel_rfl) (fun _ _ _ h => h) (Or.inl ⟨by rfl, ?_⟩) (sK _ LA0.out) ?_
        rotate_left
        · (intro wS hSw; (try dsimp only at hSw); go_simp; try with_reducible rfl)
        simp only [Act.put, List.getElem_toArray, List.getElem_cons_zero, List.getElem_cons_succ, List.setIfInBounds_toArray, List.set_cons_zero, List.set_cons_succ]
        refine wpAnyH_take (i := 11) (v := ?_) rfl (by kernel_rfl) (by kernel_rfl) (by kernel_rfl) (fun _ _ _ h => h) (Or.inl ⟨by rfl, ?_⟩) (sK _ LA0.out) ?_
        rotate_left
        · (intro wS hSw; (try dsimp only at hSw); go_simp; try with_reducible rfl)
        simp only [Act.put, List.getElem_toArray, List.getElem_cons_zero, List.getElem_cons_succ, List.setIfInBounds_toArray, List.set_cons_zero, List.set_cons_succ]
        refine wpAnyH_take (i := 12) (v := ?_) rfl (by kernel_rfl) (by kernel_rfl) (by kernel_rfl) (fun _ _ _ h => h) (Or.inl ⟨by rfl, ?_⟩) (sK _ LA0.out) ?_
        rotate_left
        · (intro wS hSw; (try dsimp only at hSw); go_simp; try with_reducible rfl)
        simp only [Act.put, List.getElem_toArray, List.getElem_cons_zero, List.getElem_cons_succ, List.setIfInBounds_toArray, List.set_cons_zero, List.set_cons_succ]
        refine wpAnyH_take (i := 13) (v := ?_) rfl (by kernel_rfl) (by kernel_rfl) (by kernel_rfl) (fun _ _ _ h => h) (Or.inl ⟨by rfl, ?_⟩) (sK _ LA0.out) ?_
        rotate_left
        · (intro wS hSw; (try dsimp only at hSw); go_simp; try with_reducible rfl)
        simp only [Act.put, List.getElem_toArray, List.getElem_cons_zero, List.getElem_cons_succ, List.setIfInBounds_toArray, List.set_cons_zero, List.set_cons_succ]
        refine wpAnyH_take (i := 14) (v := ?_) rfl (by kernel_rfl) (by kernel_rfl) (by kernel_rfl) (fun _ _ _ h => h) (Or.inl ⟨by rfl, ?_⟩) (sK _ LA0.out) ?_
        rotate_left
        · (intro wS hSw; (try dsimp only at hSw); go_simp; try with_reducible rfl)
        simp only [Act.put, List.getElem_toArray, List.getElem_cons_zero, List.getElem_cons_succ, List.setIfInBounds_toArray, List.set_cons_zero, List.set_cons_succ]
        refine wpAnyH_take (i := 15) (v := ?_) rfl (by kernel_rfl) (by kernel_rfl) (by kernel_rfl) (fun _ _ _ h => h) (Or.inl ⟨by rfl, ?_⟩) (sK _ LA0.out) ?_
        rotate_left
        · (intro wS hSw; (try dsimp only at hSw); go_simp; try with_reducible rfl)
        simp only [Act.put, List.getElem_toArray, List.getElem_cons_zero, List.getElem_cons_succ, List.setIfInBounds_toArray, List.set_cons_zero, List.set_cons_succ]
        refine wpAnyH_take (i := 16) (v := ?_) rfl (by kernel_rfl) (by kernel_rfl) (by kernel_rfl) (fun _ _ _ h => h) (Or.inl ⟨by rfl, ?_⟩) (sK _ LA0.out) ?_
        rotate_left
        · (intro wS hSw; (try dsimp only at hSw); go_simp; try with_reducible rfl)
        simp only [Act.put, List.getElem_toArray, List.getElem_cons_zero, List.getElem_cons_succ, List.setIfInBounds_toArray, List.set_cons_zero, List.set_cons_succ]
        refine wpAnyH_take (i := 17) (v := ?_) rfl (by kernel_rfl) (by kernel_rfl) (by kernel_rfl) (fun _ _ _ h => h) (Or.inl ⟨by rfl, ?_⟩) (sK _ LA0.out) ?_
        rotate_left
        · (intro wS hSw; (try dsimp only at hSw); go_simp; try with_reducible rfl)
        simp only [Act.put, List.getElem_toArray, List.getElem_cons_zero, List.getElem_cons_succ, List.setIfInBounds_toArray, List.set_cons_zero, List.set_cons_succ]
        refine wpAnyH_take (i := 18) (v := ?_) rfl (by kernel_rfl) (by kernel_rfl) (by kernel_rfl) (fun _ _ _ h => h) (Or.inl ⟨by rfl, ?_⟩) (sK _ LA0.out) ?_
        rotate_left
        · (intro wS hSw; (try dsimp only at hSw); go_simp; try with_reducible rfl)
        simp only [Act.put, List.getElem_toArray, List.getElem_cons_zero, List.getElem_cons_succ, List.setIfInBounds_toArray, List.set_cons_zero, List.set_cons_succ]
        refine wpAnyH_take (i := 19) (v := ?_) rfl (by kernel_rfl) (by kernel_rfl) (by kernel_rfl) (fun _ _ _ h => h) (Or.inl ⟨by rfl, ?_⟩) (sK _ LA0.out) ?_
        rotate_left
        · (intro wS hSw; (try dsimp only at hSw); go_simp; try with_reducible rfl)
        simp only [Act.put, List.getElem_toArray, List.getElem_cons_zero, List.getElem_cons_succ, List.setIfInBounds_toArray, List.set_cons_zero, List.set_cons_succ]
        refine wpAnyH_take (i := 20) (v := ?_) rfl (by kernel_rfl) (by kernel_rfl) (by kernel_rfl) (fun _ _ _ h => h) (Or.inl ⟨by rfl, ?_⟩) (sK _ LA0.out) ?_
        rotate_left
        · (intro wS hSw; (try dsimp only at hSw); go_simp; try with_reducible rfl)
        simp only [Act.put, List.getElem_toArray, List.getElem_cons_zero, List.getElem_cons_succ, List.setIfInBounds_toArray, List.set_cons_zero, List.set_cons_succ]
        refine wpAnyH_take (i := 21) (v := ?_) rfl (by kernel_rfl) (by kernel_rfl) (by kernel_rfl) (fun _ _ _ h => h) (Or.inl ⟨by rfl, ?_⟩) (sK _ LA0.out) ?_
        rotate_left
        · (intro wS hSw; (try dsimp only at hSw); go_simp; try with_reducible rfl)
        simp only [Act.put, List.getElem_toArray, List.getElem_cons_zero, List.getElem_cons_succ, List.setIfInBounds_toArray, List.set_cons_zero, List.set_cons_succ]
        refine wpAnyH_take (i := 22) (v := ?_) rfl (by kernel_rfl) (by kernel_rfl) (by kernel_rfl) (fun _ _ _ h => h) (Or.inl ⟨by rfl, ?_⟩) (sK _ LA0.out) ?_
        rotate_left
        · (intro wS hSw; (try dsimp only at hSw); go_simp; try with_reducible rfl)
        simp only [Act.put, List.getElem_toArray, List.getElem_cons_zero, List.getElem_cons_succ, List.setIfInBounds_toArray, List.set_cons_zero, List.set_cons_succ]
        refine wpAnyH_take (i := 23) (v := ?_) rfl (by kernel_rfl) (by kernel_rfl) (by kernel_rfl) (fun _ _ _ h => h) (Or.inl ⟨by rfl, ?_⟩) (sK _ LA0.out) ?_
        rotate_left
        · (intro wS hSw; (try dsimp only at hSw); go_simp; try with_reducible rfl)
        simp only [Act.put, List.getElem_toArray, List.getElem_cons_zero, List.getElem_cons_succ, List.setIfInBounds_toArray, List.set_cons_zero, List.set_cons_succ]
        refine wpAnyH_take (i := 24) (v := ?_) rfl (by kernel_rfl) (by kernel_rfl) (by kernel_rfl) (fun _ _ _ h => h) (Or.inl ⟨by rfl, ?_⟩) (sK _ LA0.out) ?_
        rotate_left
        · (intro wS hSw; (try dsimp only at hSw); go_simp; try with_reducible rfl)
        simp only [Act.put, List.getElem_toArray, List.getElem_cons_zero, List.getElem_cons_succ, List.setIfInBounds_toArray, List.set_cons_zero, List.set_cons_succ]
        refine wpAnyH_ready (rs := [25]) (by kernel_rfl) (by simp) ?_
        refine AllReadyH.cons rfl (fun K hK => ?_) AllReadyH.nil
        have s0 : wr.cell? ⟨w.heap.size + 1, 0, none⟩ = some (.int .i64 pu) := LU0.out.cell 0
        have f0 : wr.frozen? ⟨w.heap.size + 1, 0, none⟩ = false := LU0.out.frozen 0
        have s1 : wr.cell? ⟨w.heap.size + 1, 1, none⟩ = some (.bool du) := LU0.out.cell 1
        have f1 : wr.frozen? ⟨w.heap.size + 1, 1, none⟩ = false := LU0.out.frozen 1
        go_simp
        clear s0 f0 s1 f1
        have LU1 : Blk ((wr.setCell ⟨w.heap.size + 1, 0, none⟩ (.int .i64 (pk + m))).setCell ⟨w.heap.size + 1, 1, none⟩ (.bool ok)).drew (w.heap.size + 1) 25 #[.int .i64 (pk + m), .bool ok] := (((Blk.id (w := wr) LU0.out).set 0 (.int .i64 (pk + m))).set 1 (.bool ok))
        have LQ1 : Blk ((wr.setCell ⟨w.heap.size + 1, 0, none⟩ (.int .i64 (pk + m))).setCell ⟨w.heap.size + 1, 1, none⟩ (.bool ok)).drew (w.heap.size) 25 #[.int .i64 0, .bool false] := (((Blk.id (w := wr) LQ0.out).far (p := ⟨w.heap.size + 1, 0, none⟩) (by show w.heap.size ≠ w.heap.size + 1; omega) (.int .i64 (pk + m))).far (p := ⟨w.heap.size + 1, 1, none⟩) (by show w.heap.size ≠ w.heap.size + 1; omega) (.bool ok))
        have LA1 : At ((wr.setCell ⟨w.heap.size + 1, 0, none⟩ (.int .i64 (pk + m))).setCell ⟨w.heap.size + 1, 1, none⟩ (.bool ok)).drew b (o + k * 4) #[.int .i64 tk, .int .i64 pk, .int .i64 dk, .bool ok] := (((At.id (w := wr) LA0.out).far (p := ⟨w.heap.size + 1, 0, none⟩) (by show b ≠ w.heap.size + 1; omega) (.int .i64 (pk + m))).far (p := ⟨w.heap.size + 1, 1, none⟩) (by show b ≠ w.heap.size + 1; omega) (.bool ok))
        have E1 : Below w.heap.size w (((wr.setCell ⟨w.heap.size + 1, 0, none⟩ (.int .i64 (pk + m))).setCell ⟨w.heap.size + 1, 1, none⟩ (.bool ok)).drew) := (((EE.out.setCell (p := ⟨w.heap.size + 1, 0, none⟩) (by show w.heap.size ≤ w.heap.size + 1; omega) (.int .i64 (pk + m))).setCell (p := ⟨w.heap.size + 1, 1, none⟩) (by show w.heap.size ≤ w.heap.size + 1; omega) (.bool ok))).drew
        obtain ⟨r1, hr1⟩ : ∃ V, ((wr.setCell ⟨w.heap.size + 1, 0, none⟩ (.int .i64 (pk + m))).setCell ⟨w.heap.size + 1, 1, none⟩ (.bool ok)).drew = V := ⟨_, rfl⟩
        rw [hr1]
        rw [hr1] at LU1 LQ1 LA1 E1
        clear hr1
        replace LU1 := Lib.hid LU1
        replace LQ1 := Lib.hid LQ1
        replace LA1 := Lib.hid LA1
        replace E1 := Lib.hid E1
        refine hK.out _ _ (sK _ LA1.out) (fun hHeld => ?_)
        clear hK K hHeld
        try simp only [Act.put, List.getElem_toArray, List.getElem_cons_zero, List.getElem_cons_succ, List.setIfInBounds_toArray, List.set_cons_zero, List.set_cons_succ]
        refine wpAnyH_take (i := 26) (v := ?_) rfl (by kernel_rfl) (by kernel_rfl) (by kernel_rfl) (fun _ _ _ h => h) (Or.inl ⟨by rfl, ?_⟩) (sK _ LA1.out) ?_
        rotate_left
        · (intro wS hSw; (try dsimp only at hSw); go_simp; try with_reducible rfl)
        simp only [Act.put, List.getElem_toArray, List.getElem_cons_zero, List.getElem_cons_succ, List.setIfInBounds_toArray, List.set_cons_zero, List.set_cons_succ]
        refine wpAnyH_done (by kernel_rfl) ?_ _
        have HU := LU1; have HQ := LQ1; have EE := E1
        go_wp2_with fail
        go_roundw
        case rel =>
          refine ⟨k + 1, by omega, ?_, by go_num, ?_, HQ.out, EE.out⟩
          · rw [ES.out]; simp
          · have e1 : posL T P D t (lastL T t (k + 1)) = pk + m := by rw [ES.out]; unfold posL; rw [if_neg (by omega)]; simp only [Nat.add_sub_cancel]; rw [HPK.out, HDK.out, HTK.out, HM.out]
            have e2 : dorL O (lastL T t (k + 1)) = ok := by rw [ES.out]; unfold dorL; rw [if_neg (by omega)]; simp only [Nat.add_sub_cancel]; exact HOK.out
            rw [e1, e2]; exact HU.out
        case measure => simp [intOf]; omega
      · rw [if_neg c1] at es
        have ES := Lib.hid es
        clear es
        have kU0 : wr.cell? ⟨w.heap.size + 1, 0, none⟩ = some (.int .i64 pu) := HU.out.cell 0
        have kU1 : wr.cell? ⟨w.heap.size + 1, 1, none⟩ = some (.bool du) := HU.out.cell 1
        have kQ0 : wr.cell? ⟨w.heap.size, 0, none⟩ = some (.int .i64 0) := HQ.out.cell 0
        have kQ1 : wr.cell? ⟨w.heap.size, 1, none⟩ = some (.bool false) := HQ.out.cell 1
        have kA0 : wr.cell? ⟨b, o + k * 4, none⟩ = some (.int .i64 tk) := HA.out 0 _ rfl
        have kA1 : wr.cell? ⟨b, o + k * 4 + 1, none⟩ = some (.int .i64 pk) := HA.out 1 _ rfl
        have kA2 : wr.cell? ⟨b, o + k * 4 + 2, none⟩ = some (.int .i64 dk) := HA.out 2 _ rfl
        have kA3 : wr.cell? ⟨b, o + k * 4 + 3, none⟩ = some (.bool ok) := HA.out 3 _ rfl
        go_wp2_with fail
        go_roundw
        case rel => exact ⟨k + 1, by omega, by rw [ES.out], by go_num, by rw [ES.out, HPU.out, HDU.out]; exact HU.out, HQ.out, EE.out⟩
        case measure => simp [intOf]; omega
    · obtain rfl : n = k := by omega
      obtain ⟨pu, hpu⟩ : ∃ q, posL T P D t (lastL T t n) = q := ⟨_, rfl⟩
      obtain ⟨du, hdu⟩ : ∃ q, dorL O (lastL T t n) = q := ⟨_, rfl⟩
      have HPU := Lib.hid hpu; have HDU := Lib.hid hdu
      rw [hpu, hdu] at HU
      have kU0 := HU.out.cell 0
      have kU1 := HU.out.cell 1
      have jQ0 := HQ.out.frozen 0
      have jQ1 := HQ.out.frozen 1
      have kQ0 := HQ.out.cell 0
      have kQ1 := HQ.out.cell 1
      clear hpu hdu
      go_wp2_with fail
      have GQ := (HQ.out.set 0 (.int .i64 pu)).set 1 (.bool du)
      have EF := Lib.hid ((EE.out.setCell (p := ⟨w.heap.size, 0, none⟩) (Nat.le_refl _) (.int .i64 pu)).setCell (p := ⟨w.heap.size, 1, none⟩) (Nat.le_refl _) (.bool du))
      have g0 := GQ.cell 0
      have g1 := GQ.cell 1
      clear kQ0 kQ1 kU0 kU1 jQ0 jQ1 GQ
      try simp only [Exit.inBlock, Exit.then]
      refine bodyPost_ret (v := .tuple #[.agg #[.int .i64 pu, .bool du], .bool (decide (0 < lastL T t n))]) (by simp [results, Try.results8, go_sem, g0, g1]) rfl ⟨by rw [HPU.out, HDU.out], EF.out⟩
set_option maxRecDepth 100000 in
set_option maxHeartbeats 4000000 in
theorem behind_any (tk pk dk t q : Int) (ok : Bool) (w : World) (f1 : -1 ≤ dk) (f2 : dk ≤ 1) (f3 : -1073741824 ≤ pk) (f4 : pk ≤ 1073741824) (f5 : -1073741824 ≤ tk) (f6 : tk ≤ 1073741824) (t1 : -1073741826 ≤ t) (t2 : t ≤ 1073741826) (hq : pk + dk * (t - tk) = q) :
    Calls Try.prog 56 #[.agg #[.int .i64 tk, .int .i64 pk, .int .i64 dk, .bool ok], .int .i64 t] w fun e w' => e = .returned (.int .i64 q) ∧ Below w.heap.size w w' := by
  have bd := dmul_bd (x := t - tk) f1 f2 (B := 2147483652) (by omega) (by omega)
  obtain ⟨m, hm⟩ : ∃ q, dk * (t - tk) = q := ⟨_, rfl⟩
  rw [hm] at bd hq
  have w1 : IntKind.i64.wrap (t - tk) = t - tk := IntWalk.i64_in _ (by omega)
  have w2 : IntKind.i64.wrap (dk * (t - tk)) = m := by rw [hm]; exact IntWalk.i64_in _ (by omega)
  have w3 : IntKind.i64.wrap (pk + m) = q := by rw [hq]; exact IntWalk.i64_in _ (by omega)
  have BW := Lib.hid ((Below.refl w.heap.size w).alloc (Nat.le_refl _) (.cells #[.int .i64 tk, .int .i64 pk, .int .i64 dk, .bool ok] 62))
  clear hm hq bd f1 f2 f3 f4 f5 f6 t1 t2
  go_enter Try.func56, Try.ntmps56
  go_wp2_with fail
  go_ret
  exact ⟨rfl, BW.out⟩
set_option maxRecDepth 100000 in
set_option maxHeartbeats 4000000 in
theorem tcl_any (A : Option Addr) (c n : Nat) (T P D : Nat → Int) (O : Nat → Bool) (t : Int) (k gl gt : Nat) (w : World) (hr : RdL w A n T P D O) (hk : k < n) (hL : Blk w gl 22 #[.slice A n c]) (hT : Blk w gt 3 #[.int .i64 t]) :
    Calls Try.prog 55 #[.int .i64 k, .pointer (some ⟨gl, 0, none⟩), .pointer (some ⟨gt, 0, none⟩)] w fun e w' => e = .returned (.bool (decide (t < T k))) ∧ Below w.heap.size w w' := by
  obtain ⟨b, o, rfl, hbl, hcell⟩ := rdL_row hr (by omega)
  obtain ⟨c0, _, _, _⟩ := hcell k hk
  have l0 : w.cell? ⟨gl, 0, none⟩ = some (.slice (some ⟨b, o, none⟩) n c) := hL.cell 0
  have l1 : w.cell? ⟨gt, 0, none⟩ = some (.int .i64 t) := hT.cell 0
  obtain ⟨tk, htk⟩ : ∃ q, T k = q := ⟨_, rfl⟩
  rw [htk] at c0
  rw [htk]
  have EE := Lib.hid (Below.refl w.heap.size w)
  clear hr hL hT hcell htk
  go_enter Try.func55, Try.ntmps55
  go_wp2_with fail
  go_quiet (fail)
  go_wp2_with fail
  try go_ret
  exact ⟨by simp, below_drewN EE.out _⟩
set_option maxRecDepth 100000 in
set_option maxHeartbeats 4000000 in
theorem tsearch_any (A : Option Addr) (c n : Nat) (T P D : Nat → Int) (O : Nat → Bool) (t : Int) (gl gt : Nat) (w : World) (hr : RdL w A n T P D O) (hn : n ≤ 60) (hs : Rises T n) (hL : Blk w gl 22 #[.slice A n c]) (hT : Blk w gt 3 #[.int .i64 t]) :
    Calls Try.prog 54 #[.int .i64 n, .func (.func 55) #[] #[.pointer (some ⟨gl, 0, none⟩), .pointer (some ⟨gt, 0, none⟩)]] w fun e w' => e = .returned (.int .i64 (lastL T t n)) ∧ Below w.heap.size w w' := by
  have KC := fun k w hr hk hL hT => tcl_any A c n T P D O t k gl gt w hr hk hL hT
  obtain ⟨R, hR⟩ : ∃ R, lastL T t n = R := ⟨_, rfl⟩
  have JQ := Lib.hid (fun r h0 h1 h2 => (lastL_eq (t := t) (r := r) hs h0 h1 h2).symm.trans hR)
  rw [hR]
  have JC := Lib.hid KC; have JR := Lib.hid hr; have HL := Lib.hid hL; have HT := Lib.hid hT
  clear KC hr hL hT hs hR
  go_enter Try.func54, Try.ntmps54
  go_wp2_with fail
  go_loopw [5, 6] (fun i j wr => ∃ a b : Int, i = .int .i64 a ∧ j = .int .i64 b ∧ 0 ≤ a ∧ a ≤ b ∧ b ≤ n ∧ Hid (0 < a → T (a.toNat - 1) ≤ t) ∧ Hid (b < n → t < T b.toNat) ∧ Below w.heap.size w wr) (fun i j _ => (intOf j - intOf i).toNat)
  case atStart => exact ⟨0, n, rfl, rfl, by omega, by omega, by omega, Lib.hid fun h => absurd h (by omega), Lib.hid fun h => absurd h (by omega), Below.refl _ _⟩
  case round =>
    obtain ⟨a, b, rfl, rfl, a0, ab, bN, hlo, hhi, hb⟩ := hrel
    have EE := Lib.hid hb
    clear hb
    by_cases h : a < b
    · obtain ⟨k, hm⟩ : ∃ m : Nat, (a + b) / 2 = m := ⟨((a + b) / 2).toNat, by omega⟩
      have m1 : (k : Int) < b := by omega
      have m2 : a ≤ (k : Int) := by omega
      have hw : IntKind.i64.wrap (a + b) = a + b := IntWalk.i64_in _ (by omega)
      have hw2 : IntKind.u64.wrap (a + b) = a + b := by unfold IntKind.wrap; simp [IntKind.signed, IntKind.bits]; omega
      have hw3 : IntKind.i64.wrap (k : Int) = k := IntWalk.i64_in _ (by omega)
      have hw4 : IntKind.u64.wrap (k : Int) = k := by unfold IntKind.wrap; simp [IntKind.signed, IntKind.bits]; omega
      have hw5 : IntKind.i64.wrap ((a + b) / 2) = k := by rw [hm]; exact hw3
      have hw6 : IntKind.i64.wrap ((k : Int) + 1) = k + 1 := IntWalk.i64_in _ (by omega)
      go_wp2_with fail
      refine (JC.out k _ (JR.out.kept EE.out) (by omega) (HL.out.next EE.out) (HT.out.next EE.out)).mono ?_
      rintro e w1 ⟨rfl, hb⟩
      have E1 := Lib.hid (EE.out.trans (hb.mono EE.out.size))
      clear hb hw hw2 hw3 hw4 hw5 hm
      by_cases c1 : t < T k
      · have HI2 : Hid ((k : Int) < n → t < T (k : Int).toNat) := Lib.hid fun _ => by simpa using c1
        have hd : decide (t < T k) = true := decide_eq_true c1
        rw [hd]
        clear c1 hd
        go_wp2_with fail
        go_roundw
        case rel => exact ⟨a, k, rfl, rfl, a0, m2, by omega, hlo, HI2, E1.out⟩
        case measure => simp [intOf]; omega
      · have LO2 : Hid (0 < (k : Int) + 1 → T (((k : Int) + 1).toNat - 1) ≤ t) := Lib.hid fun _ => by
          have e : ((k : Int) + 1).toNat - 1 = k := by omega
          rw [e]; omega
        have hd : decide (t < T k) = false := decide_eq_false c1
        rw [hd]
        clear c1 hd
        go_wp2_with fail
        go_roundw
        case rel => exact ⟨k + 1, b, rfl, rfl, by omega, by omega, bN, LO2, hhi, E1.out⟩
        case measure => simp [intOf]; omega
    · obtain rfl : a = b := by omega
      obtain ⟨k, rfl⟩ : ∃ k : Nat, a = k := ⟨a.toNat, by omega⟩
      obtain rfl : R = k := (JQ.out k (by omega) (fun h => by have := hlo.out (by omega); simpa using this) (fun h => by have := hhi.out (by omega); simpa using this)).symm
      go_wp2_with fail
      go_ret
      exact ⟨rfl, EE.out⟩
set_option maxRecDepth 100000 in
set_option maxHeartbeats 4000000 in
theorem at_any (A : Option Addr) (c n : Nat) (T P D : Nat → Int) (O : Nat → Bool) (t : Int) (w : World) (hr : RdL w A n T P D O) (hf : FineL T P D n) (t1 : -1073741826 ≤ t) (t2 : t ≤ 1073741826) :
    Calls Try.prog 38 #[.slice A n c, .int .i64 t] w fun e w' => e = .returned (.tuple #[.int .i64 (posL T P D t (lastL T t n)), .bool (dorL O (lastL T t n)), .bool (decide (0 < lastL T t n))]) ∧ Below w.heap.size w w' := by
  have HR := Lib.hid hr; have HF := Lib.hid hf
  have hn : n ≤ 60 := hf.1
  have HS := Lib.hid hf.2.1
  have hle := lastL_le T t n
  obtain ⟨r, hR⟩ : ∃ r, lastL T t n = r := ⟨_, rfl⟩
  have HRR := Lib.hid hR
  rw [hR] at hle ⊢
  obtain ⟨pp, hpp⟩ : ∃ q, posL T P D t r = q := ⟨_, rfl⟩
  obtain ⟨dd, hdd⟩ : ∃ q, dorL O r = q := ⟨_, rfl⟩
  obtain ⟨ii, hii⟩ : ∃ q, decide (0 < r) = q := ⟨_, rfl⟩
  rw [hpp, hdd, hii]
  have HPP := Lib.hid hpp; have HDD := Lib.hid hdd; have HII := Lib.hid hii
  clear hr hf hR hpp hdd hii
  go_enter Try.func38, Try.ntmps38
  go_wp2_with fail
  have BL := (Blk.new w #[.slice A n c] 22).alloc (.cells #[.int .i64 t] 3)
  have BK := Blk.new (w.alloc (.cells #[.slice A n c] 22)) #[.int .i64 t] 3
  rw [World.size_alloc] at BK
  have BE : Below w.heap.size w ((w.alloc (.cells #[.slice A n c] 22)).alloc (.cells #[.int .i64 t] 3)) := ((Below.refl w.heap.size w).alloc (Nat.le_refl _) _).alloc (by simp <;> omega) _
  obtain ⟨V0, hV0⟩ : ∃ V, ((w.alloc (.cells #[.slice A n c] 22)).alloc (.cells #[.int .i64 t] 3)) = V := ⟨_, rfl⟩
  rw [hV0] at BL BK BE ⊢
  have HL := Lib.hid BL
  have HK := Lib.hid BK
  have EE := Lib.hid BE
  have ne0_1 : w.heap.size ≠ w.heap.size + 1 := by omega
  have ne1_0 : w.heap.size + 1 ≠ w.heap.size := by omega
  clear hV0 BE BL BK
  have kL0 : V0.cell? ⟨w.heap.size, 0, none⟩ = some (.slice A n c) := HL.out.cell 0
  have kK0 : V0.cell? ⟨w.heap.size + 1, 0, none⟩ = some (.int .i64 t) := HK.out.cell 0
  refine (tsearch_any A c n T P D O t w.heap.size (w.heap.size + 1) V0 (HR.out.kept EE.out) hn HS.out HL.out HK.out).mono ?_
  rintro e v1 ⟨rfl, hb⟩
  clear kL0 kK0
  have HL := Lib.hid (Blk.next (w := V0) HL.out hb)
  have HK := Lib.hid (Blk.next (w := V0) HK.out hb)
  have EE := Lib.hid (EE.out.trans (hb.mono EE.out.size))
  clear hb
  have kL0 : v1.cell? ⟨w.heap.size, 0, none⟩ = some (.slice A n c) := HL.out.cell 0
  have kK0 : v1.cell? ⟨w.heap.size + 1, 0, none⟩ = some (.int .i64 t) := HK.out.cell 0
  rw [HRR.out]
  by_cases h0 : r = 0
  · subst h0
    obtain rfl : pp = 0 := HPP.out.symm
    obtain rfl : dd = false := HDD.out.symm
    obtain rfl : ii = false := HII.out.symm
    have kL0 : v1.cell? ⟨w.heap.size, 0, none⟩ = some (.slice A n c) := HL.out.cell 0
    have kK0 : v1.cell? ⟨w.heap.size + 1, 0, none⟩ = some (.int .i64 t) := HK.out.cell 0
    go_wp2_with fail
    go_ret3
    exact ⟨rfl, EE.out⟩
  · obtain ⟨k, rfl⟩ : ∃ k, r = k + 1 := ⟨r - 1, by omega⟩
    obtain ⟨f1, f2, f3, f4, f5, f6⟩ := HF.out.2.2 k (by omega)
    clear kL0 kK0
    obtain ⟨b, o, rfl, hbl, hcell⟩ := rdL_row HR.out (by omega)
    obtain ⟨c0, c1, c2, c3⟩ := hcell k (by omega)
    have hA := (at4 c0 c1 c2 c3).next EE.out
    have HA := Lib.hid hA
    clear c0 c1 c2 c3 hcell hA
    obtain ⟨tk, htk⟩ : ∃ q, T k = q := ⟨_, rfl⟩
    obtain ⟨pk, hpk⟩ : ∃ q, P k = q := ⟨_, rfl⟩
    obtain ⟨dk, hdk⟩ : ∃ q, D k = q := ⟨_, rfl⟩
    obtain ⟨ok, hok⟩ : ∃ q, O k = q := ⟨_, rfl⟩
    have HTK := Lib.hid htk; have HPK := Lib.hid hpk; have HDK := Lib.hid hdk; have HOK := Lib.hid hok
    rw [htk, hpk, hdk, hok] at HA
    rw [htk] at f5 f6; rw [hpk] at f3 f4; rw [hdk] at f1 f2
    clear htk hpk hdk hok
    have hw : IntKind.i64.wrap ((k : Int) + 1 - 1) = k := by rw [show (k : Int) + 1 - 1 = k by omega]; exact IntWalk.i64_in _ (by omega)
    have hw2 : (((k + 1 : Nat) : Int) == 0) = false := by simp; omega
    obtain ⟨q, hq⟩ : ∃ q, pk + dk * (t - tk) = q := ⟨_, rfl⟩
    have KB := Lib.hid (fun w => behind_any tk pk dk t q ok w f1 f2 f3 f4 f5 f6 t1 t2 hq)
    have e1 : posL T P D t (k + 1) = q := by unfold posL; rw [if_neg (by omega)]; simp only [Nat.add_sub_cancel]; rw [HPK.out, HDK.out, HTK.out, hq]
    have e2 : dorL O (k + 1) = ok := by unfold dorL; rw [if_neg (by omega)]; simp only [Nat.add_sub_cancel]; exact HOK.out
    have e3 : decide (0 < k + 1) = true := by simp
    obtain rfl : q = pp := by rw [← HPP.out, e1]
    obtain rfl : ok = dd := by rw [← HDD.out, e2]
    obtain rfl : ii = true := by rw [← HII.out, e3]
    clear hq e1 e2 e3
    have kL0 : v1.cell? ⟨w.heap.size, 0, none⟩ = some (.slice (some ⟨b, o, none⟩) n c) := HL.out.cell 0
    have kK0 : v1.cell? ⟨w.heap.size + 1, 0, none⟩ = some (.int .i64 t) := HK.out.cell 0
    have kA0 : v1.cell? ⟨b, o + k * 4, none⟩ = some (.int .i64 tk) := HA.out 0 _ rfl
    have kA1 : v1.cell? ⟨b, o + k * 4 + 1, none⟩ = some (.int .i64 pk) := HA.out 1 _ rfl
    have kA2 : v1.cell? ⟨b, o + k * 4 + 2, none⟩ = some (.int .i64 dk) := HA.out 2 _ rfl
    have kA3 : v1.cell? ⟨b, o + k * 4 + 3, none⟩ = some (.bool ok) := HA.out 3 _ rfl
    have lL := HL.out.lt
    have lK := HK.out.lt
    go_wp2_with fail
    clear kL0 kK0 kA0 kA1 kA2 kA3 lL lK
    have GL : Blk (v1.alloc (.cells #[.int .i64 tk, .int .i64 pk, .int .i64 dk, .bool ok] 62)) (w.heap.size) 22 #[.slice (some ⟨b, o, none⟩) n c] := HL.out.alloc (.cells #[.int .i64 tk, .int .i64 pk, .int .i64 dk, .bool ok] 62)
    have GK : Blk (v1.alloc (.cells #[.int .i64 tk, .int .i64 pk, .int .i64 dk, .bool ok] 62)) (w.heap.size + 1) 3 #[.int .i64 t] := HK.out.alloc (.cells #[.int .i64 tk, .int .i64 pk, .int .i64 dk, .bool ok] 62)
    have GA : At (v1.alloc (.cells #[.int .i64 tk, .int .i64 pk, .int .i64 dk, .bool ok] 62)) b (o + k * 4) #[.int .i64 tk, .int .i64 pk, .int .i64 dk, .bool ok] := HA.out.alloc (.cells #[.int .i64 tk, .int .i64 pk, .int .i64 dk, .bool ok] 62)
    have GG : Blk (v1.alloc (.cells #[.int .i64 tk, .int .i64 pk, .int .i64 dk, .bool ok] 62)) (v1.heap.size) 62 #[.int .i64 tk, .int .i64 pk, .int .i64 dk, .bool ok] := Blk.new v1 _ _
    have GE : Below w.heap.size w (v1.alloc (.cells #[.int .i64 tk, .int .i64 pk, .int .i64 dk, .bool ok] 62)) := EE.out.alloc EE.out.size (.cells #[.int .i64 tk, .int .i64 pk, .int .i64 dk, .bool ok] 62)
    obtain ⟨g, hg⟩ : ∃ g, v1.heap.size = g := ⟨_, rfl⟩
    have ne3_0 : g ≠ w.heap.size := by have := HL.out.lt; omega
    have ne0_3 : w.heap.size ≠ g := by have := HL.out.lt; omega
    have ne3_1 : g ≠ w.heap.size + 1 := by have := HK.out.lt; omega
    have ne1_3 : w.heap.size + 1 ≠ g := by have := HK.out.lt; omega
    have geg : w.heap.size ≤ g := by have := EE.out.size; omega
    rw [hg] at GG ⊢
    clear hg
    obtain ⟨v2, hv2⟩ : ∃ V, (v1.alloc (.cells #[.int .i64 tk, .int .i64 pk, .int .i64 dk, .bool ok] 62)) = V := ⟨_, rfl⟩
    rw [hv2] at GL GK GA GG GE ⊢
    have HL := Lib.hid GL
    have HK := Lib.hid GK
    have HA := Lib.hid GA
    have HG := Lib.hid GG
    have EE := Lib.hid GE
    clear hv2 GL GK GA GG GE
    have kL0 : v2.cell? ⟨w.heap.size, 0, none⟩ = some (.slice (some ⟨b, o, none⟩) n c) := HL.out.cell 0
    have kK0 : v2.cell? ⟨w.heap.size + 1, 0, none⟩ = some (.int .i64 t) := HK.out.cell 0
    have kA0 : v2.cell? ⟨b, o + k * 4, none⟩ = some (.int .i64 tk) := HA.out 0 _ rfl
    have kA1 : v2.cell? ⟨b, o + k * 4 + 1, none⟩ = some (.int .i64 pk) := HA.out 1 _ rfl
    have kA2 : v2.cell? ⟨b, o + k * 4 + 2, none⟩ = some (.int .i64 dk) := HA.out 2 _ rfl
    have kA3 : v2.cell? ⟨b, o + k * 4 + 3, none⟩ = some (.bool ok) := HA.out 3 _ rfl
    have kG0 : v2.cell? ⟨g, 0, none⟩ = some (.int .i64 tk) := HG.out.cell 0
    have kG1 : v2.cell? ⟨g, 1, none⟩ = some (.int .i64 pk) := HG.out.cell 1
    have kG2 : v2.cell? ⟨g, 2, none⟩ = some (.int .i64 dk) := HG.out.cell 2
    have kG3 : v2.cell? ⟨g, 3, none⟩ = some (.bool ok) := HG.out.cell 3
    have sK : ∀ X, Blk X (w.heap.size + 1) 3 #[.int .i64 t] → Blk X (g) 62 #[.int .i64 tk, .int .i64 pk, .int .i64 dk, .bool ok] → (fun X => X.cell? ⟨w.heap.size + 1, 0, none⟩ = some (.int .i64 t) ∧ X.cell? ⟨g, 0, none⟩ = some (.int .i64 tk) ∧ X.cell? ⟨g, 1, none⟩ = some (.int .i64 pk) ∧ X.cell? ⟨g, 2, none⟩ = some (.int .i64 dk) ∧ X.cell? ⟨g, 3, none⟩ = some (.bool ok)) X := fun X hK hG => ⟨hK.cell 0, hG.cell 0, hG.cell 1, hG.cell 2, hG.cell 3⟩
    have LK0 := Lib.hid (HK.out.drew)
    have LG0 := Lib.hid (HG.out.drew)
    have E0 := Lib.hid (EE.out.drew)
    clear kL0 kK0 kA0 kA1 kA2 kA3 kG0 kG1 kG2 kG3
    refine wp_region_held_drew (S := (fun X => X.cell? ⟨w.heap.size + 1, 0, none⟩ = some (.int .i64 t) ∧ X.cell? ⟨g, 0, none⟩ = some (.int .i64 tk) ∧ X.cell? ⟨g, 1, none⟩ = some (.int .i64 pk) ∧ X.cell? ⟨g, 2, none⟩ = some (.int .i64 dk) ∧ X.cell? ⟨g, 3, none⟩ = some (.bool ok))) (by kernel_rfl) (sK _ LK0.out LG0.out) (fun hHeld => ?_)
    clear hHeld
    refine wpAnyH_take (i := 0) (v := ?_) rfl (by kernel_rfl) (by kernel_rfl) (by kernel_rfl) (fun _ _ _ h => h) (Or.inl ⟨by rfl, ?_⟩) (sK _ LK0.out LG0.out) ?_
    rotate_left
    · (intro wS hSw; (try dsimp only at hSw); go_simp; try with_reducible rfl)
    simp only [Act.put, List.getElem_toArray, List.getElem_cons_zero, List.getElem_cons_succ, List.setIfInBounds_toArray, List.set_cons_zero, List.set_cons_succ]
    refine wpAnyH_take (i := 1) (v := ?_) rfl (by kernel_rfl) (by kernel_rfl) (by kernel_rfl) (fun _ _ _ h => h) (Or.inl ⟨by rfl, ?_⟩) (sK _ LK0.out LG0.out) ?_
    rotate_left
    · (intro wS hSw; (try dsimp only at hSw); go_simp; try with_reducible rfl)
    simp only [Act.put, List.getElem_toArray, List.getElem_cons_zero, List.getElem_cons_succ, List.setIfInBounds_toArray, List.set_cons_zero, List.set_cons_succ]
    refine wpAnyH_take (i := 3) (v := ?_) rfl (by kernel_rfl) (by kernel_rfl) (by kernel_rfl) (fun _ _ _ h => h) (Or.inl ⟨by rfl, ?_⟩) (sK _ LK0.out LG0.out) ?_
    rotate_left
    · (intro wS hSw; (try dsimp only at hSw); go_simp; try with_reducible rfl)
    simp only [Act.put, List.getElem_toArray, List.getElem_cons_zero, List.getElem_cons_succ, List.setIfInBounds_toArray, List.set_cons_zero, List.set_cons_succ]
    refine wpAnyH_take (i := 4) (v := ?_) rfl (by kernel_rfl) (by kernel_rfl) (by kernel_rfl) (fun _ _ _ h => h) (Or.inl ⟨by rfl, ?_⟩) (sK _ LK0.out LG0.out) ?_
    rotate_left
    · (intro wS hSw; (try dsimp only at hSw); go_simp; try with_reducible rfl)
    simp only [Act.put, List.getElem_toArray, List.getElem_cons_zero, List.getElem_cons_succ, List.setIfInBounds_toArray, List.set_cons_zero, List.set_cons_succ]
    refine wpAnyH_ready (rs := [2]) (by kernel_rfl) (by simp) ?_
    refine AllReadyH.cons rfl (fun K hK => ?_) AllReadyH.nil
    go_simp
    refine (KB.out _).mono ?_
    rintro e r1 ⟨rfl, hb⟩
    have LK1 := Lib.hid (Blk.next (w := v2.drew) LK0.out hb)
    have LG1 := Lib.hid (Blk.next (w := v2.drew) LG0.out hb)
    have E1 := Lib.hid (E0.out.trans (hb.mono E0.out.size))
    clear hb
    go_wp2_with fail
    refine hK.out _ _ (sK _ LK1.out LG1.out) (fun hHeld => ?_)
    clear hK K hHeld
    try simp only [Act.put, List.getElem_toArray, List.getElem_cons_zero, List.getElem_cons_succ, List.setIfInBounds_toArray, List.set_cons_zero, List.set_cons_succ]
    refine wpAnyH_take (i := 5) (v := ?_) rfl (by kernel_rfl) (by kernel_rfl) (by kernel_rfl) (fun _ _ _ h => h) (Or.inl ⟨by rfl, ?_⟩) (sK _ LK1.out LG1.out) ?_
    rotate_left
    · (intro wS hSw; (try dsimp only at hSw); go_simp; try with_reducible rfl)
    simp only [Act.put, List.getElem_toArray, List.getElem_cons_zero, List.getElem_cons_succ, List.setIfInBounds_toArray, List.set_cons_zero, List.set_cons_succ]
    refine wpAnyH_take (i := 6) (v := ?_) rfl (by kernel_rfl) (by kernel_rfl) (by kernel_rfl) (fun _ _ _ h => h) (Or.inl ⟨by rfl, ?_⟩) (sK _ LK1.out LG1.out) ?_
    rotate_left
    · (intro wS hSw; (try dsimp only at hSw); go_simp; try with_reducible rfl)
    simp only [Act.put, List.getElem_toArray, List.getElem_cons_zero, List.getElem_cons_succ, List.setIfInBounds_toArray, List.set_cons_zero, List.set_cons_succ]
    refine wpAnyH_take (i := 7) (v := ?_) rfl (by kernel_rfl) (by kernel_rfl) (by kernel_rfl) (fun _ _ _ h => h) (Or.inl ⟨by rfl, ?_⟩) (sK _ LK1.out LG1.out) ?_
    rotate_left
    · (intro wS hSw; (try dsimp only at hSw); go_simp; try with_reducible rfl)
    simp only [Act.put, List.getElem_toArray, List.getElem_cons_zero, List.getElem_cons_succ, List.setIfInBounds_toArray, List.set_cons_zero, List.set_cons_succ]
    refine wpAnyH_done (by kernel_rfl) ?_ _
    go_wp2_with fail
    go_ret3
    exact ⟨rfl, E1.out⟩
end Go.Proofs.Ytodfjghgcphhhab
