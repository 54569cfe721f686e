/- The walk of ShowTexts: it answers true for every input, and leaves all old blocks as they were. No condition but the laid tables, which are tied to the text. -/
import Derived.Test.YtmnildjcnpfddaaDoorRows
import Derived.Test.YtmnildjcnpfddaaDoorRowKit
import Derived.Test.YtmnildjcnpfddaaDoorRowS
import Derived.Test.YtmnildjcnpfddaaDoorRowZ
import Derived.Test.YtmnildjcnpfddaaDoorRowL
import Derived.Test.YtmnildjcnpfddaaDoorRowM
import Derived.Test.YtmnildjcnpfddaaDoorBlocks
import Derived.Test.YtmnildjcnpfddaaDoorBL
import Derived.Test.YtmnildjcnpfddaaDoorAtKit
import Derived.Test.YtmnildjcnpfddaaDoorTab
import Derived.Test.YtmnildjcnpfddaaDoorDigB
import Derived.Test.YtmnildjcnpfddaaDoorVetA
import Derived.Test.YtmnildjcnpfddaaDoorVetB
import Derived.Test.YtmnildjcnpfddaaDoorShowA
import Derived.Test.YtmnildjcnpfddaaDoorShowB
import Derived.Test.YtmnildjcnpfddaaDoorShowM
import Derived.Test.YtmnildjcnpfddaaDoorShowC
import Derived.Test.YtmnildjcnpfddaaDoorShowD
import Derived.Test.YtmnildjcnpfddaaDoorShowE
import Derived.WalkKit
import Derived.ProofKit
import Derived.OpenShut
import Derived.Deep.QuietTactic
import Derived.BigQuiet
import Derived.Lib.SmallJoins
import Derived.Lib.Hide
import Derived.WalkSpells
import Derived.WalkLawsBesides
import Derived.Lib.LaidTab
import Derived.Lib.LaidU8
import Derived.Deep.RegionHeld3
import Derived.Deep.LoopGhost
import Derived.BigRegion
import Derived.OwnWalk
import Derived.Laws.MakeOwn
import Derived.Laws.OwnMore
import Derived.Laws.IdiomStrings
import Derived.IntWalk
namespace Go.Proofs.YtmnildjcnpfddaaDoor.showTexts
open Go.ChangeShapes Go.WideShapes Go.ChangeAt Go.RowKit Go.Joins
set_option linter.unusedSimpArgs false
set_option linter.unusedVariables false

theorem gT : Tryd.prog.globalNamed "internal/strconv.uint64pow10" = some 1 := by kernel_rfl
theorem gTType : (Tryd.prog.globals[1]?).map (·.type) = some 88 := by kernel_rfl
theorem tab_of_laid {w : World} (h0 : laidMetH Tryd.prog Rows.showTextsRow.laid w) : Tab w := by
  have h : laidMet Tryd.prog Rows.showTextsRow.laid w := h0
  obtain ⟨g', t', cs, fuel, p, hg', ht', hvar, hd⟩ := Lib.laidMet.reads h (.tail _ (.tail _ (.head _)))
  obtain rfl := Option.some.inj (gT.symm.trans hg')
  obtain rfl := Option.some.inj (gTType.symm.trans ht')
  unfold Tab Lib.TabIs
  rw [hvar, ← Lib.cells_of_tab (zs := Lib.pow10Tab) Tryd.underlying88 Tryd.underlying73 (by kernel_rfl) (by kernel_rfl) hd]
theorem tx_val (s0 s1 s2 s3 s4 s5 s6 s7 s9 s10 s11 s12 : Int) (n : Nat) (z : Nat → Nat → Int) : ∃ v er, ∀ w e w', TxR s0 s1 s2 s3 s4 s5 s6 s7 s9 s10 s11 s12 n z w e w' → e = .returned (.tuple #[.string v, .int .i64 er]) ∧ Below w.heap.size w w' := by
  by_cases h : ckA (numV s0 s1 s2 s3 s4 s5 s6 s7 s10 s11 s12) s9 n z = 0
  · refine ⟨bL (txT s0 s1 s2 s3 s4 s5 s6 s7 s9 s10 s11 s12 n z), 0, fun w e w' hq => ⟨?_, hq.1⟩⟩
    rcases hq.2 with ⟨_, q⟩ | ⟨q, _⟩
    · exact q
    · exact absurd h q
  · refine ⟨bL [], ckA (numV s0 s1 s2 s3 s4 s5 s6 s7 s10 s11 s12) s9 n z, fun w e w' hq => ⟨?_, hq.1⟩⟩
    rcases hq.2 with ⟨q, _⟩ | ⟨_, q⟩
    · exact absurd q h
    · exact q
theorem i64_of {x : Int} (h : (Lit.int .i64 x).wf = true) : I64 x := by
  have := bounds_i64 h
  unfold I64; omega
set_option maxRecDepth 100000 in
set_option maxHeartbeats 16000000 in
theorem walk {s0 s1 s2 s3 s4 s5 s6 s7 s9 s10 s11 s12 e l c : Int} {A : Option Addr} {n cp : Nat} {z : Nat → Nat → Int} {w : World} (hs0 : (Lit.int .i64 s0).wf = true) (hs1 : (Lit.int .i64 s1).wf = true) (hs2 : (Lit.int .i64 s2).wf = true) (hs3 : (Lit.int .i64 s3).wf = true) (hs4 : (Lit.int .i64 s4).wf = true) (hs5 : (Lit.int .i64 s5).wf = true) (hs6 : (Lit.int .i64 s6).wf = true) (hs7 : (Lit.int .i64 s7).wf = true) (_ : n ≤ cp) (hm : cp ≤ maxLen) (hr : RdZ w 3 A n z) (_ : A = none → cp = 0) (hs9 : (Lit.int .i64 s9).wf = true) (hs10 : (Lit.int .i64 s10).wf = true) (hs11 : (Lit.int .i64 s11).wf = true) (hs12 : (Lit.int .i64 s12).wf = true) (he : (Lit.int .i64 e).wf = true) (hl : (Lit.int .i64 l).wf = true) (hc : (Lit.int .i64 c).wf = true) (hL : laidMetH Tryd.prog Rows.showTextsRow.laid w) :
    Calls Tryd.prog 3 #[.agg #[.int .i64 s0, .int .i64 s1, .int .i64 s2, .int .i64 s3, .int .i64 s4, .int .i64 s5, .int .i64 s6, .int .i64 s7, .slice A n cp, .int .i64 s9, .int .i64 s10, .int .i64 s11, .int .i64 s12], .agg #[.int .i64 e, .int .i64 l, .int .i64 c]] w fun e w' => e = .returned (.bool true) ∧ Below w.heap.size w w' := by
  have hb2 : Below w.heap.size w ((w.alloc (.cells #[.int .i64 s0, .int .i64 s1, .int .i64 s2, .int .i64 s3, .int .i64 s4, .int .i64 s5, .int .i64 s6, .int .i64 s7, .slice A n cp, .int .i64 s9, .int .i64 s10, .int .i64 s11, .int .i64 s12] 25)).alloc (.cells #[.int .i64 e, .int .i64 l, .int .i64 c] 28)) := ((Below.refl _ _).alloc (Nat.le_refl _) _).alloc (by simp) _
  by_cases h1 : 30 < n
  · have h1i : (30 : Int) < (n : Int) := by omega
    clear hr hL
    go_enter Tryd.func3, Tryd.ntmps3
    go_wp2_with fail
    go_ret
    exact ⟨rfl, hb2⟩
  have h1i : ¬ (30 : Int) < (n : Int) := by omega
  have HT := Lib.hid (tab_of_laid hL)
  have HR := Lib.hid hr
  have hS : SOk s0 s1 s2 s3 s4 s5 s6 s7 s9 s10 s11 s12 := ⟨⟨i64_of hs0, i64_of hs1, i64_of hs2, i64_of hs3⟩, ⟨i64_of hs4, i64_of hs5, i64_of hs6, i64_of hs7⟩, i64_of hs9, i64_of hs10, i64_of hs11, i64_of hs12⟩
  have hZ : sgB2 z n := fun k hk => by
    obtain ⟨_, _, _, hc⟩ := hr k hk
    exact ⟨i64_of (hc 0 (by omega)).2, i64_of (hc 1 (by omega)).2, i64_of (hc 2 (by omega)).2⟩
  obtain ⟨v, er, hv⟩ := tx_val s0 s1 s2 s3 s4 s5 s6 s7 s9 s10 s11 s12 n z
  have K1 := Lib.hid (fun W (hT : Tab W) (h : RdZ W 3 A n z) => (ptext_any s0 s1 s2 s3 s4 s5 s6 s7 s9 s10 s11 s12 A n cp z W hT hS hZ h (by omega)).mono (hv W))
  have K2 := Lib.hid (fun W (h : RdZ W 3 A n z) => (dtext_any s0 s1 s2 s3 s4 s5 s6 s7 s9 s10 s11 s12 A n cp z W hS hZ h (by omega)).mono (hv W))
  have KW1 := Lib.hid (fun W (hT : Tab W) => pwhere_any e l c W hT (i64_of he) (i64_of hl) (i64_of hc))
  have KW2 := Lib.hid (fun W => dwhere_any e l c W (i64_of he) (i64_of hl) (i64_of hc))
  have KT1 := Lib.hid (fun W => ptemp_any l W); have KT2 := Lib.hid (fun W => dtemp_any l W)
  have KD1 := Lib.hid (fun W => pdisp_any l W); have KD2 := Lib.hid (fun W => ddisp_any l W)
  obtain ⟨wh, hwh⟩ : ∃ x, bL (whL e l c) = x := ⟨_, rfl⟩
  obtain ⟨tw, htw⟩ : ∃ x, bL (tmW l) = x := ⟨_, rfl⟩
  obtain ⟨dw, hdw⟩ : ∃ x, bL (dsW l) = x := ⟨_, rfl⟩
  rw [hwh] at KW1 KW2; rw [htw] at KT1 KT2; rw [hdw] at KD1 KD2
  have BS := ((Blk.new w #[.int .i64 s0, .int .i64 s1, .int .i64 s2, .int .i64 s3, .int .i64 s4, .int .i64 s5, .int .i64 s6, .int .i64 s7, .slice A n cp, .int .i64 s9, .int .i64 s10, .int .i64 s11, .int .i64 s12] 25).alloc (.cells #[.int .i64 e, .int .i64 l, .int .i64 c] 28))
  have BP := Blk.new (w.alloc (.cells #[.int .i64 s0, .int .i64 s1, .int .i64 s2, .int .i64 s3, .int .i64 s4, .int .i64 s5, .int .i64 s6, .int .i64 s7, .slice A n cp, .int .i64 s9, .int .i64 s10, .int .i64 s11, .int .i64 s12] 25)) #[.int .i64 e, .int .i64 l, .int .i64 c] 28
  rw [World.size_alloc] at BP
  obtain ⟨V0, hV0⟩ : ∃ V, ((w.alloc (.cells #[.int .i64 s0, .int .i64 s1, .int .i64 s2, .int .i64 s3, .int .i64 s4, .int .i64 s5, .int .i64 s6, .int .i64 s7, .slice A n cp, .int .i64 s9, .int .i64 s10, .int .i64 s11, .int .i64 s12] 25)).alloc (.cells #[.int .i64 e, .int .i64 l, .int .i64 c] 28)) = V := ⟨_, rfl⟩
  rw [hV0] at BS BP hb2
  have HV0 := Lib.hid hV0
  have HSB := Lib.hid BS; have HPB := Lib.hid BP; have E0 := Lib.hid hb2
  clear hV0 BS BP hb2 hwh htw hdw hv hS hZ hr hL h1 hs0 hs1 hs2 hs3 hs4 hs5 hs6 hs7 hs9 hs10 hs11 hs12 he hl hc
  obtain ⟨bp, hbp⟩ : ∃ b, w.heap.size + 1 = b := ⟨_, rfl⟩
  rw [hbp] at HPB
  have HBP := Lib.hid hbp
  clear hbp
  go_enter Tryd.func3, Tryd.ntmps3
  go_wp2_with fail
  rw [HV0.out]
  refine (K1.out V0 (tab_next HT.out E0.out) (RdZ.kept HR.out E0.out)).mono ?_
  rintro en V1 ⟨rfl, hb⟩
  have HS1 := Lib.hid (HSB.out.next hb); have HP1 := Lib.hid (HPB.out.next hb)
  have E1 := Lib.hid (E0.out.trans (hb.mono E0.out.size))
  clear hb K1 HSB HPB E0
  have a0 := HS1.out.cell 0
  have a1 := HS1.out.cell 1
  have a2 := HS1.out.cell 2
  have a3 := HS1.out.cell 3
  have a4 := HS1.out.cell 4
  have a5 := HS1.out.cell 5
  have a6 := HS1.out.cell 6
  have a7 := HS1.out.cell 7
  have a8 := HS1.out.cell 8
  have a9 := HS1.out.cell 9
  have a10 := HS1.out.cell 10
  have a11 := HS1.out.cell 11
  have a12 := HS1.out.cell 12
  try rw [HBP.out]
  go_wp2_with fail
  refine (K2.out V1 (RdZ.kept HR.out E1.out)).mono ?_
  rintro en V2 ⟨rfl, hb⟩
  have HP2 := Lib.hid (HP1.out.next hb)
  have E2 := Lib.hid (E1.out.trans (hb.mono E1.out.size))
  clear hb K2 HP1 E1 HS1 a0 a1 a2 a3 a4 a5 a6 a7 a8 a9 a10 a11 a12
  have c0 := HP2.out.cell 0; have c1 := HP2.out.cell 1; have c2 := HP2.out.cell 2
  try rw [HBP.out]
  go_wp2_with fail
  go_quiet (fail)
  clear c0 c1 c2
  have HP0 := HP2.out.draw nq
  have EE0 := below_drewN E2.out nq
  obtain ⟨V4, hV4⟩ : ∃ V4, V2.drewN nq = V4 := ⟨_, rfl⟩
  rw [hV4] at HP0 EE0 ⊢
  have HP := Lib.hid HP0; have EE := Lib.hid EE0
  clear hV4 HP0 EE0
  go_wp2_with fail
  have kP0 : V4.cell? ⟨bp, 0, none⟩ = some (.int .i64 e) := HP.out.cell 0
  have kP1 : V4.cell? ⟨bp, 1, none⟩ = some (.int .i64 l) := HP.out.cell 1
  have kP2 : V4.cell? ⟨bp, 2, none⟩ = some (.int .i64 c) := HP.out.cell 2
  have sK : ∀ X, Blk X (bp) 28 #[.int .i64 e, .int .i64 l, .int .i64 c] → (fun X => X.cell? ⟨bp, 0, none⟩ = some (.int .i64 e) ∧ X.cell? ⟨bp, 1, none⟩ = some (.int .i64 l) ∧ X.cell? ⟨bp, 2, none⟩ = some (.int .i64 c)) X := fun X hP => ⟨hP.cell 0, hP.cell 1, hP.cell 2⟩
  have LP0 := Lib.hid (HP.out.drew)
  have E0 := Lib.hid (EE.out.drew)
  clear kP0 kP1 kP2
  refine wp_region_held_drew (S := (fun X => X.cell? ⟨bp, 0, none⟩ = some (.int .i64 e) ∧ X.cell? ⟨bp, 1, none⟩ = some (.int .i64 l) ∧ X.cell? ⟨bp, 2, none⟩ = some (.int .i64 c))) (by kernel_rfl) (sK _ LP0.out) (fun hHeld => ?_)
  clear hHeld
  refine wpAnyH_take (i := 0) (v := ?_) rfl (by kernel_rfl) (by kernel_rfl) (by kernel_rfl) (fun _ _ _ h => h) (Or.inl ⟨by rfl, ?_⟩) (sK _ LP0.out) ?_
  rotate_left
  · (intro wS hSw; (try dsimp only at hSw); go_simp; try with_reducible rfl)
  simp only [Act.put, List.getElem_toArray, List.getElem_cons_zero, List.getElem_cons_succ, List.setIfInBounds_toArray, List.set_cons_zero, List.set_cons_succ]
  refine wpAnyH_take (i := 1) (v := ?_) rfl (by kernel_rfl) (by kernel_rfl) (by kernel_rfl) (fun _ _ _ h => h) (Or.inl ⟨by rfl, ?_⟩) (sK _ LP0.out) ?_
  rotate_left
  · (intro wS hSw; (try dsimp only at hSw); go_simp; try with_reducible rfl)
  simp only [Act.put, List.getElem_toArray, List.getElem_cons_zero, List.getElem_cons_succ, List.setIfInBounds_toArray, List.set_cons_zero, List.set_cons_succ]
  refine wpAnyH_take (i := 2) (v := ?_) rfl (by kernel_rfl) (by kernel_rfl) (by kernel_rfl) (fun _ _ _ h => h) (Or.inl ⟨by rfl, ?_⟩) (sK _ LP0.out) ?_
  rotate_left
  · (intro wS hSw; (try dsimp only at hSw); go_simp; try with_reducible rfl)
  simp only [Act.put, List.getElem_toArray, List.getElem_cons_zero, List.getElem_cons_succ, List.setIfInBounds_toArray, List.set_cons_zero, List.set_cons_succ]
  refine wpAnyH_take (i := 3) (v := ?_) rfl (by kernel_rfl) (by kernel_rfl) (by kernel_rfl) (fun _ _ _ h => h) (Or.inl ⟨by rfl, ?_⟩) (sK _ LP0.out) ?_
  rotate_left
  · (intro wS hSw; (try dsimp only at hSw); go_simp; try with_reducible rfl)
  simp only [Act.put, List.getElem_toArray, List.getElem_cons_zero, List.getElem_cons_succ, List.setIfInBounds_toArray, List.set_cons_zero, List.set_cons_succ]
  refine wpAnyH_take (i := 4) (v := ?_) rfl (by kernel_rfl) (by kernel_rfl) (by kernel_rfl) (fun _ _ _ h => h) (Or.inl ⟨by rfl, ?_⟩) (sK _ LP0.out) ?_
  rotate_left
  · (intro wS hSw; (try dsimp only at hSw); go_simp; try with_reducible rfl)
  simp only [Act.put, List.getElem_toArray, List.getElem_cons_zero, List.getElem_cons_succ, List.setIfInBounds_toArray, List.set_cons_zero, List.set_cons_succ]
  refine wpAnyH_take (i := 5) (v := ?_) rfl (by kernel_rfl) (by kernel_rfl) (by kernel_rfl) (fun _ _ _ h => h) (Or.inl ⟨by rfl, ?_⟩) (sK _ LP0.out) ?_
  rotate_left
  · (intro wS hSw; (try dsimp only at hSw); go_simp; try with_reducible rfl)
  simp only [Act.put, List.getElem_toArray, List.getElem_cons_zero, List.getElem_cons_succ, List.setIfInBounds_toArray, List.set_cons_zero, List.set_cons_succ]
  refine wpAnyH_take (i := 6) (v := ?_) rfl (by kernel_rfl) (by kernel_rfl) (by kernel_rfl) (fun _ _ _ h => h) (Or.inl ⟨by rfl, ?_⟩) (sK _ LP0.out) ?_
  rotate_left
  · (intro wS hSw; (try dsimp only at hSw); go_simp; try with_reducible rfl)
  simp only [Act.put, List.getElem_toArray, List.getElem_cons_zero, List.getElem_cons_succ, List.setIfInBounds_toArray, List.set_cons_zero, List.set_cons_succ]
  refine wpAnyH_take (i := 7) (v := ?_) rfl (by kernel_rfl) (by kernel_rfl) (by kernel_rfl) (fun _ _ _ h => h) (Or.inl ⟨by rfl, ?_⟩) (sK _ LP0.out) ?_
  rotate_left
  · (intro wS hSw; (try dsimp only at hSw); go_simp; try with_reducible rfl)
  simp only [Act.put, List.getElem_toArray, List.getElem_cons_zero, List.getElem_cons_succ, List.setIfInBounds_toArray, List.set_cons_zero, List.set_cons_succ]
  refine wpAnyH_take (i := 8) (v := ?_) rfl (by kernel_rfl) (by kernel_rfl) (by kernel_rfl) (fun _ _ _ h => h) (Or.inl ⟨by rfl, ?_⟩) (sK _ LP0.out) ?_
  rotate_left
  · (intro wS hSw; (try dsimp only at hSw); go_simp; try with_reducible rfl)
  simp only [Act.put, List.getElem_toArray, List.getElem_cons_zero, List.getElem_cons_succ, List.setIfInBounds_toArray, List.set_cons_zero, List.set_cons_succ]
  refine wpAnyH_take (i := 9) (v := ?_) rfl (by kernel_rfl) (by kernel_rfl) (by kernel_rfl) (fun _ _ _ h => h) (Or.inl ⟨by rfl, ?_⟩) (sK _ LP0.out) ?_
  rotate_left
  · (intro wS hSw; (try dsimp only at hSw); go_simp; try with_reducible rfl)
  simp only [Act.put, List.getElem_toArray, List.getElem_cons_zero, List.getElem_cons_succ, List.setIfInBounds_toArray, List.set_cons_zero, List.set_cons_succ]
  refine wpAnyH_take (i := 11) (v := ?_) rfl (by kernel_rfl) (by kernel_rfl) (by kernel_rfl) (fun _ _ _ h => h) (Or.inl ⟨by rfl, ?_⟩) (sK _ LP0.out) ?_
  rotate_left
  · (intro wS hSw; (try dsimp only at hSw); go_simp; try with_reducible rfl)
  simp only [Act.put, List.getElem_toArray, List.getElem_cons_zero, List.getElem_cons_succ, List.setIfInBounds_toArray, List.set_cons_zero, List.set_cons_succ]
  refine wpAnyH_ready (rs := [10]) (by kernel_rfl) (by simp) ?_
  refine AllReadyH.cons rfl (fun K hK => ?_) AllReadyH.nil
  go_simp
  refine (KW1.out _ (tab_next HT.out E0.out)).mono ?_
  rintro e r1 ⟨rfl, hb⟩
  have LP1 := Lib.hid (Blk.next (w := V4.drew) LP0.out hb)
  have E1 := Lib.hid (E0.out.trans (hb.mono E0.out.size))
  clear hb
  go_wp2_with fail
  refine hK.out _ _ (sK _ LP1.out) (fun hHeld => ?_)
  clear hK K hHeld
  try simp only [Act.put, List.getElem_toArray, List.getElem_cons_zero, List.getElem_cons_succ, List.setIfInBounds_toArray, List.set_cons_zero, List.set_cons_succ]
  refine wpAnyH_ready (rs := [12]) (by kernel_rfl) (by simp) ?_
  refine AllReadyH.cons rfl (fun K hK => ?_) AllReadyH.nil
  go_simp
  refine (KW2.out _).mono ?_
  rintro e r2 ⟨rfl, hb⟩
  have LP2 := Lib.hid (Blk.next (w := r1) LP1.out hb)
  have E2 := Lib.hid (E1.out.trans (hb.mono E1.out.size))
  clear hb
  go_wp2_with fail
  refine hK.out _ _ (sK _ LP2.out) (fun hHeld => ?_)
  clear hK K hHeld
  try simp only [Act.put, List.getElem_toArray, List.getElem_cons_zero, List.getElem_cons_succ, List.setIfInBounds_toArray, List.set_cons_zero, List.set_cons_succ]
  refine wpAnyH_take (i := 13) (v := ?_) rfl (by kernel_rfl) (by kernel_rfl) (by kernel_rfl) (fun _ _ _ h => h) (Or.inl ⟨by rfl, ?_⟩) (sK _ LP2.out) ?_
  rotate_left
  · (intro wS hSw; (try dsimp only at hSw); go_simp; try with_reducible rfl)
  simp only [Act.put, List.getElem_toArray, List.getElem_cons_zero, List.getElem_cons_succ, List.setIfInBounds_toArray, List.set_cons_zero, List.set_cons_succ]
  refine wpAnyH_take (i := 14) (v := ?_) rfl (by kernel_rfl) (by kernel_rfl) (by kernel_rfl) (fun _ _ _ h => h) (Or.inl ⟨by rfl, ?_⟩) (sK _ LP2.out) ?_
  rotate_left
  · (intro wS hSw; (try dsimp only at hSw); go_simp; try with_reducible rfl)
  simp only [Act.put, List.getElem_toArray, List.getElem_cons_zero, List.getElem_cons_succ, List.setIfInBounds_toArray, List.set_cons_zero, List.set_cons_succ]
  refine wpAnyH_take (i := 15) (v := ?_) rfl (by kernel_rfl) (by kernel_rfl) (by kernel_rfl) (fun _ _ _ h => h) (Or.inl ⟨by rfl, ?_⟩) (sK _ LP2.out) ?_
  rotate_left
  · (intro wS hSw; (try dsimp only at hSw); go_simp; try with_reducible rfl)
  simp only [Act.put, List.getElem_toArray, List.getElem_cons_zero, List.getElem_cons_succ, List.setIfInBounds_toArray, List.set_cons_zero, List.set_cons_succ]
  refine wpAnyH_take (i := 16) (v := ?_) rfl (by kernel_rfl) (by kernel_rfl) (by kernel_rfl) (fun _ _ _ h => h) (Or.inl ⟨by rfl, ?_⟩) (sK _ LP2.out) ?_
  rotate_left
  · (intro wS hSw; (try dsimp only at hSw); go_simp; try with_reducible rfl)
  simp only [Act.put, List.getElem_toArray, List.getElem_cons_zero, List.getElem_cons_succ, List.setIfInBounds_toArray, List.set_cons_zero, List.set_cons_succ]
  refine wpAnyH_take (i := 18) (v := ?_) rfl (by kernel_rfl) (by kernel_rfl) (by kernel_rfl) (fun _ _ _ h => h) (Or.inl ⟨by rfl, ?_⟩) (sK _ LP2.out) ?_
  rotate_left
  · (intro wS hSw; (try dsimp only at hSw); go_simp; try with_reducible rfl)
  simp only [Act.put, List.getElem_toArray, List.getElem_cons_zero, List.getElem_cons_succ, List.setIfInBounds_toArray, List.set_cons_zero, List.set_cons_succ]
  refine wpAnyH_ready (rs := [17]) (by kernel_rfl) (by simp) ?_
  refine AllReadyH.cons rfl (fun K hK => ?_) AllReadyH.nil
  go_simp
  refine (KT1.out _).mono ?_
  rintro e r3 ⟨rfl, hb⟩
  have LP3 := Lib.hid (Blk.next (w := r2) LP2.out hb)
  have E3 := Lib.hid (E2.out.trans (hb.mono E2.out.size))
  clear hb
  go_wp2_with fail
  refine hK.out _ _ (sK _ LP3.out) (fun hHeld => ?_)
  clear hK K hHeld
  try simp only [Act.put, List.getElem_toArray, List.getElem_cons_zero, List.getElem_cons_succ, List.setIfInBounds_toArray, List.set_cons_zero, List.set_cons_succ]
  refine wpAnyH_ready (rs := [19]) (by kernel_rfl) (by simp) ?_
  refine AllReadyH.cons rfl (fun K hK => ?_) AllReadyH.nil
  go_simp
  refine (KT2.out _).mono ?_
  rintro e r4 ⟨rfl, hb⟩
  have LP4 := Lib.hid (Blk.next (w := r3) LP3.out hb)
  have E4 := Lib.hid (E3.out.trans (hb.mono E3.out.size))
  clear hb
  go_wp2_with fail
  refine hK.out _ _ (sK _ LP4.out) (fun hHeld => ?_)
  clear hK K hHeld
  try simp only [Act.put, List.getElem_toArray, List.getElem_cons_zero, List.getElem_cons_succ, List.setIfInBounds_toArray, List.set_cons_zero, List.set_cons_succ]
  refine wpAnyH_take (i := 20) (v := ?_) rfl (by kernel_rfl) (by kernel_rfl) (by kernel_rfl) (fun _ _ _ h => h) (Or.inl ⟨by rfl, ?_⟩) (sK _ LP4.out) ?_
  rotate_left
  · (intro wS hSw; (try dsimp only at hSw); go_simp; try with_reducible rfl)
  simp only [Act.put, List.getElem_toArray, List.getElem_cons_zero, List.getElem_cons_succ, List.setIfInBounds_toArray, List.set_cons_zero, List.set_cons_succ]
  refine wpAnyH_take (i := 21) (v := ?_) rfl (by kernel_rfl) (by kernel_rfl) (by kernel_rfl) (fun _ _ _ h => h) (Or.inl ⟨by rfl, ?_⟩) (sK _ LP4.out) ?_
  rotate_left
  · (intro wS hSw; (try dsimp only at hSw); go_simp; try with_reducible rfl)
  simp only [Act.put, List.getElem_toArray, List.getElem_cons_zero, List.getElem_cons_succ, List.setIfInBounds_toArray, List.set_cons_zero, List.set_cons_succ]
  refine wpAnyH_take (i := 22) (v := ?_) rfl (by kernel_rfl) (by kernel_rfl) (by kernel_rfl) (fun _ _ _ h => h) (Or.inl ⟨by rfl, ?_⟩) (sK _ LP4.out) ?_
  rotate_left
  · (intro wS hSw; (try dsimp only at hSw); go_simp; try with_reducible rfl)
  simp only [Act.put, List.getElem_toArray, List.getElem_cons_zero, List.getElem_cons_succ, List.setIfInBounds_toArray, List.set_cons_zero, List.set_cons_succ]
  refine wpAnyH_take (i := 23) (v := ?_) rfl (by kernel_rfl) (by kernel_rfl) (by kernel_rfl) (fun _ _ _ h => h) (Or.inl ⟨by rfl, ?_⟩) (sK _ LP4.out) ?_
  rotate_left
  · (intro wS hSw; (try dsimp only at hSw); go_simp; try with_reducible rfl)
  simp only [Act.put, List.getElem_toArray, List.getElem_cons_zero, List.getElem_cons_succ, List.setIfInBounds_toArray, List.set_cons_zero, List.set_cons_succ]
  refine wpAnyH_take (i := 25) (v := ?_) rfl (by kernel_rfl) (by kernel_rfl) (by kernel_rfl) (fun _ _ _ h => h) (Or.inl ⟨by rfl, ?_⟩) (sK _ LP4.out) ?_
  rotate_left
  · (intro wS hSw; (try dsimp only at hSw); go_simp; try with_reducible rfl)
  simp only [Act.put, List.getElem_toArray, List.getElem_cons_zero, List.getElem_cons_succ, List.setIfInBounds_toArray, List.set_cons_zero, List.set_cons_succ]
  refine wpAnyH_ready (rs := [24]) (by kernel_rfl) (by simp) ?_
  refine AllReadyH.cons rfl (fun K hK => ?_) AllReadyH.nil
  go_simp
  refine (KD1.out _).mono ?_
  rintro e r5 ⟨rfl, hb⟩
  have LP5 := Lib.hid (Blk.next (w := r4) LP4.out hb)
  have E5 := Lib.hid (E4.out.trans (hb.mono E4.out.size))
  clear hb
  go_wp2_with fail
  refine hK.out _ _ (sK _ LP5.out) (fun hHeld => ?_)
  clear hK K hHeld
  try simp only [Act.put, List.getElem_toArray, List.getElem_cons_zero, List.getElem_cons_succ, List.setIfInBounds_toArray, List.set_cons_zero, List.set_cons_succ]
  refine wpAnyH_ready (rs := [26]) (by kernel_rfl) (by simp) ?_
  refine AllReadyH.cons rfl (fun K hK => ?_) AllReadyH.nil
  go_simp
  refine (KD2.out _).mono ?_
  rintro e r6 ⟨rfl, hb⟩
  have LP6 := Lib.hid (Blk.next (w := r5) LP5.out hb)
  have E6 := Lib.hid (E5.out.trans (hb.mono E5.out.size))
  clear hb
  go_wp2_with fail
  refine hK.out _ _ (sK _ LP6.out) (fun hHeld => ?_)
  clear hK K hHeld
  try simp only [Act.put, List.getElem_toArray, List.getElem_cons_zero, List.getElem_cons_succ, List.setIfInBounds_toArray, List.set_cons_zero, List.set_cons_succ]
  refine wpAnyH_take (i := 27) (v := ?_) rfl (by kernel_rfl) (by kernel_rfl) (by kernel_rfl) (fun _ _ _ h => h) (Or.inl ⟨by rfl, ?_⟩) (sK _ LP6.out) ?_
  rotate_left
  · (intro wS hSw; (try dsimp only at hSw); go_simp; try with_reducible rfl)
  simp only [Act.put, List.getElem_toArray, List.getElem_cons_zero, List.getElem_cons_succ, List.setIfInBounds_toArray, List.set_cons_zero, List.set_cons_succ]
  refine wpAnyH_take (i := 28) (v := ?_) rfl (by kernel_rfl) (by kernel_rfl) (by kernel_rfl) (fun _ _ _ h => h) (Or.inl ⟨by rfl, ?_⟩) (sK _ LP6.out) ?_
  rotate_left
  · (intro wS hSw; (try dsimp only at hSw); go_simp; try with_reducible rfl)
  simp only [Act.put, List.getElem_toArray, List.getElem_cons_zero, List.getElem_cons_succ, List.setIfInBounds_toArray, List.set_cons_zero, List.set_cons_succ]
  refine wpAnyH_take (i := 29) (v := ?_) rfl (by kernel_rfl) (by kernel_rfl) (by kernel_rfl) (fun _ _ _ h => h) (Or.inl ⟨by rfl, ?_⟩) (sK _ LP6.out) ?_
  rotate_left
  · (intro wS hSw; (try dsimp only at hSw); go_simp; try with_reducible rfl)
  simp only [Act.put, List.getElem_toArray, List.getElem_cons_zero, List.getElem_cons_succ, List.setIfInBounds_toArray, List.set_cons_zero, List.set_cons_succ]
  refine wpAnyH_ready (rs := [30]) (by kernel_rfl) (by simp) ?_
  refine AllReadyH.cons rfl (fun K hK => ?_) AllReadyH.nil
  go_simp
  refine (alive27 _ (tab_next HT.out E6.out)).mono ?_
  rintro e r7 ⟨rfl, hb⟩
  have LP7 := Lib.hid (Blk.next (w := r6) LP6.out hb)
  have E7 := Lib.hid (E6.out.trans (hb.mono E6.out.size))
  clear hb
  go_wp2_with fail
  refine hK.out _ _ (sK _ LP7.out) (fun hHeld => ?_)
  clear hK K hHeld
  try simp only [Act.put, List.getElem_toArray, List.getElem_cons_zero, List.getElem_cons_succ, List.setIfInBounds_toArray, List.set_cons_zero, List.set_cons_succ]
  refine wpAnyH_take (i := 31) (v := ?_) rfl (by kernel_rfl) (by kernel_rfl) (by kernel_rfl) (fun _ _ _ h => h) (Or.inl ⟨by rfl, ?_⟩) (sK _ LP7.out) ?_
  rotate_left
  · (intro wS hSw; (try dsimp only at hSw); go_simp; try with_reducible rfl)
  simp only [Act.put, List.getElem_toArray, List.getElem_cons_zero, List.getElem_cons_succ, List.setIfInBounds_toArray, List.set_cons_zero, List.set_cons_succ]
  refine wpAnyH_take (i := 32) (v := ?_) rfl (by kernel_rfl) (by kernel_rfl) (by kernel_rfl) (fun _ _ _ h => h) (Or.inl ⟨by rfl, ?_⟩) (sK _ LP7.out) ?_
  rotate_left
  · (intro wS hSw; (try dsimp only at hSw); go_simp; try with_reducible rfl)
  simp only [Act.put, List.getElem_toArray, List.getElem_cons_zero, List.getElem_cons_succ, List.setIfInBounds_toArray, List.set_cons_zero, List.set_cons_succ]
  refine wpAnyH_done (by kernel_rfl) ?_ _
  go_wp2_with fail
  go_ret
  exact ⟨rfl, E7.out⟩

end Go.Proofs.YtmnildjcnpfddaaDoor.showTexts
