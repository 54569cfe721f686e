/- Scenarios as texts: words, places, of both. -/
import Derived.Test.YtmnildjcnpfddaaDoorRows
import Derived.Test.YtmnildjcnpfddaaDoorRowKit
import Derived.Test.YtmnildjcnpfddaaDoorShelf
import Derived.Test.YtmnildjcnpfddaaDoorRowS
import Derived.Test.YtmnildjcnpfddaaDoorRowZ
import Derived.Test.YtmnildjcnpfddaaDoorRowL
import Derived.Test.YtmnildjcnpfddaaDoorRowM
import Derived.Test.YtmnildjcnpfddaaDoorBlocks
import Derived.Test.YtmnildjcnpfddaaDoorBL
import Derived.Test.YtmnildjcnpfddaaDoorTab
import Derived.Test.YtmnildjcnpfddaaDoorDigB
import Derived.Lib.ItoaLen
import Derived.Lib.Join
import Derived.Test.YtmnildjcnpfddaaDoorAtKit
import Derived.Test.YtmnildjcnpfddaaDoorShowA
import Derived.Deep.RegionHeld3
import Derived.WalkKit
import Derived.IntWalk
import Derived.Lib.Hide
import Derived.WalkSpells
import Derived.WalkLawsBesides
import Derived.Laws.IdiomStrings
import Derived.Laws.OwnMore
import Derived.Laws.MakeOwn
import Derived.OwnWalk
import Derived.Deep.QuietTactic
import Derived.BigQuiet
import Derived.BigRegion
import Derived.Deep.LoopGhost
namespace Go.Proofs.YtmnildjcnpfddaaDoor
open Go.RowKit Go.Sort
set_option linter.unusedSimpArgs false
set_option linter.unusedVariables false
def tmW (t : Int) : List UInt8 := if t = 1 then [117, 112, 112, 101, 97, 107] else if t = 2 then [108, 117, 110, 99, 104] else if t = 3 then [100, 111, 119, 110, 112, 101, 97, 107] else if t = 4 then [105, 110, 116, 101, 114, 102, 108, 111, 111, 114] else []
def dsW (t : Int) : List UInt8 := if t = 1 then [99, 111, 108, 108, 101, 99, 116, 105, 118, 101] else if t = 2 then [115, 101, 99, 116, 111, 114, 115] else if t = 3 then [115, 111, 111, 110, 101, 115, 116] else if t = 4 then [100, 101, 115, 116, 105, 110, 97, 116, 105, 111, 110] else []
set_option maxHeartbeats 4000000 in
theorem ptemp_any (t : Int) (w : World) : Calls Tryd.prog 8 #[.int .i64 t] w fun e w' => e = .returned (.string (bL (tmW t))) ∧ Below w.heap.size w w' := by
  by_cases h1 : t = 1
  · subst h1
    go_enter Tryd.func8, Tryd.ntmps8
    go_wp2_with fail
    go_ret
    exact ⟨rfl, Below.refl _ _⟩
  have q1 : (t == 1) = false := by rw [beq_eq_false_iff_ne]; exact h1
  by_cases h2 : t = 2
  · subst h2
    go_enter Tryd.func8, Tryd.ntmps8
    go_wp2_with fail
    go_ret
    exact ⟨rfl, Below.refl _ _⟩
  have q2 : (t == 2) = false := by rw [beq_eq_false_iff_ne]; exact h2
  by_cases h3 : t = 3
  · subst h3
    go_enter Tryd.func8, Tryd.ntmps8
    go_wp2_with fail
    go_ret
    exact ⟨rfl, Below.refl _ _⟩
  have q3 : (t == 3) = false := by rw [beq_eq_false_iff_ne]; exact h3
  by_cases h4 : t = 4
  · subst h4
    go_enter Tryd.func8, Tryd.ntmps8
    go_wp2_with fail
    go_ret
    exact ⟨rfl, Below.refl _ _⟩
  have q4 : (t == 4) = false := by rw [beq_eq_false_iff_ne]; exact h4
  have e : tmW t = [] := by unfold tmW; rw [if_neg h1, if_neg h2, if_neg h3, if_neg h4]
  rw [e]
  clear h1 h2 h3 h4 e
  go_enter Tryd.func8, Tryd.ntmps8
  go_wp2_with fail
  go_ret
  exact ⟨rfl, Below.refl _ _⟩
set_option maxHeartbeats 4000000 in
theorem pdisp_any (t : Int) (w : World) : Calls Tryd.prog 10 #[.int .i64 t] w fun e w' => e = .returned (.string (bL (dsW t))) ∧ Below w.heap.size w w' := by
  by_cases h1 : t = 1
  · subst h1
    go_enter Tryd.func10, Tryd.ntmps10
    go_wp2_with fail
    go_ret
    exact ⟨rfl, Below.refl _ _⟩
  have q1 : (t == 1) = false := by rw [beq_eq_false_iff_ne]; exact h1
  by_cases h2 : t = 2
  · subst h2
    go_enter Tryd.func10, Tryd.ntmps10
    go_wp2_with fail
    go_ret
    exact ⟨rfl, Below.refl _ _⟩
  have q2 : (t == 2) = false := by rw [beq_eq_false_iff_ne]; exact h2
  by_cases h3 : t = 3
  · subst h3
    go_enter Tryd.func10, Tryd.ntmps10
    go_wp2_with fail
    go_ret
    exact ⟨rfl, Below.refl _ _⟩
  have q3 : (t == 3) = false := by rw [beq_eq_false_iff_ne]; exact h3
  by_cases h4 : t = 4
  · subst h4
    go_enter Tryd.func10, Tryd.ntmps10
    go_wp2_with fail
    go_ret
    exact ⟨rfl, Below.refl _ _⟩
  have q4 : (t == 4) = false := by rw [beq_eq_false_iff_ne]; exact h4
  have e : dsW t = [] := by unfold dsW; rw [if_neg h1, if_neg h2, if_neg h3, if_neg h4]
  rw [e]
  clear h1 h2 h3 h4 e
  go_enter Tryd.func10, Tryd.ntmps10
  go_wp2_with fail
  go_ret
  exact ⟨rfl, Below.refl _ _⟩
set_option maxHeartbeats 4000000 in
theorem dtemp_any (t : Int) (w : World) : Calls Tryd.prog 9 #[.int .i64 t] w fun e w' => e = .returned (.string (bL (tmW t))) ∧ Below w.heap.size w w' := by
  have EE := Lib.hid ((Below.refl w.heap.size w).alloc (Nat.le_refl _) (.cells #[.string (ByteArray.mk #[]), .string (ByteArray.mk #[117, 112, 112, 101, 97, 107]), .string (ByteArray.mk #[108, 117, 110, 99, 104]), .string (ByteArray.mk #[100, 111, 119, 110, 112, 101, 97, 107]), .string (ByteArray.mk #[105, 110, 116, 101, 114, 102, 108, 111, 111, 114])] 47))
  by_cases h1 : t = 1
  · subst h1
    go_enter Tryd.func9, Tryd.ntmps9
    go_wp2_with fail
    go_ret
    exact ⟨rfl, EE.out⟩
  by_cases h2 : t = 2
  · subst h2
    go_enter Tryd.func9, Tryd.ntmps9
    go_wp2_with fail
    go_ret
    exact ⟨rfl, EE.out⟩
  by_cases h3 : t = 3
  · subst h3
    go_enter Tryd.func9, Tryd.ntmps9
    go_wp2_with fail
    go_ret
    exact ⟨rfl, EE.out⟩
  by_cases h4 : t = 4
  · subst h4
    go_enter Tryd.func9, Tryd.ntmps9
    go_wp2_with fail
    go_ret
    exact ⟨rfl, EE.out⟩
  have e : tmW t = [] := by unfold tmW; rw [if_neg h1, if_neg h2, if_neg h3, if_neg h4]
  rw [e]
  by_cases hl : t < 1
  · clear h1 h2 h3 h4 e
    go_enter Tryd.func9, Tryd.ntmps9
    go_wp2_with fail
    go_ret
    exact ⟨rfl, EE.out⟩
  · have hg : 4 < t := by omega
    clear h1 h2 h3 h4 e
    go_enter Tryd.func9, Tryd.ntmps9
    go_wp2_with fail
    go_ret
    exact ⟨rfl, EE.out⟩
set_option maxHeartbeats 4000000 in
theorem ddisp_any (t : Int) (w : World) : Calls Tryd.prog 11 #[.int .i64 t] w fun e w' => e = .returned (.string (bL (dsW t))) ∧ Below w.heap.size w w' := by
  have EE := Lib.hid ((Below.refl w.heap.size w).alloc (Nat.le_refl _) (.cells #[.string (ByteArray.mk #[]), .string (ByteArray.mk #[99, 111, 108, 108, 101, 99, 116, 105, 118, 101]), .string (ByteArray.mk #[115, 101, 99, 116, 111, 114, 115]), .string (ByteArray.mk #[115, 111, 111, 110, 101, 115, 116]), .string (ByteArray.mk #[100, 101, 115, 116, 105, 110, 97, 116, 105, 111, 110])] 47))
  by_cases h1 : t = 1
  · subst h1
    go_enter Tryd.func11, Tryd.ntmps11
    go_wp2_with fail
    go_ret
    exact ⟨rfl, EE.out⟩
  by_cases h2 : t = 2
  · subst h2
    go_enter Tryd.func11, Tryd.ntmps11
    go_wp2_with fail
    go_ret
    exact ⟨rfl, EE.out⟩
  by_cases h3 : t = 3
  · subst h3
    go_enter Tryd.func11, Tryd.ntmps11
    go_wp2_with fail
    go_ret
    exact ⟨rfl, EE.out⟩
  by_cases h4 : t = 4
  · subst h4
    go_enter Tryd.func11, Tryd.ntmps11
    go_wp2_with fail
    go_ret
    exact ⟨rfl, EE.out⟩
  have e : dsW t = [] := by unfold dsW; rw [if_neg h1, if_neg h2, if_neg h3, if_neg h4]
  rw [e]
  by_cases hl : t < 1
  · clear h1 h2 h3 h4 e
    go_enter Tryd.func11, Tryd.ntmps11
    go_wp2_with fail
    go_ret
    exact ⟨rfl, EE.out⟩
  · have hg : 4 < t := by omega
    clear h1 h2 h3 h4 e
    go_enter Tryd.func11, Tryd.ntmps11
    go_wp2_with fail
    go_ret
    exact ⟨rfl, EE.out⟩
def whL (e l c : Int) : List UInt8 := if e = 0 then [] else Lib.itoa l ++ [58] ++ Lib.itoa c ++ [58, 32, 101, 114, 114, 111, 114, 32] ++ Lib.itoa e
def I64 (x : Int) : Prop := -9223372036854775808 ≤ x ∧ x ≤ 9223372036854775807
theorem itoa_sz {x : Int} (h : I64 x) : (bL (Lib.itoa x)).size ≤ 21 := by rw [bL_size]; exact Lib.itoa_length_le x h.1 h.2
set_option maxRecDepth 100000 in
set_option maxHeartbeats 8000000 in
theorem pwhere_any (e l c : Int) (w : World) (ht : Tab w) (he : I64 e) (hl : I64 l) (hc : I64 c) : Calls Tryd.prog 6 #[.agg #[.int .i64 e, .int .i64 l, .int .i64 c]] w fun en w' => en = .returned (.string (bL (whL e l c))) ∧ Below w.heap.size w w' := by
  obtain ⟨Q, hQ⟩ : ∃ Q : Ending → World → Prop, (fun (en : Ending) (w' : World) => en = .returned (.string (bL (whL e l c))) ∧ Below w.heap.size w w') = Q := ⟨_, rfl⟩
  rw [hQ]
  have EE := Lib.hid ((Below.refl w.heap.size w).alloc (Nat.le_refl _) (.cells #[.int .i64 e, .int .i64 l, .int .i64 c] 28))
  have HP := Lib.hid (Blk.new w #[.int .i64 e, .int .i64 l, .int .i64 c] 28)
  by_cases h0 : e = 0
  · subst h0
    have HQ0 : Hid (∀ w', Below w.heap.size w w' → Q (.returned (.string (ByteArray.mk #[]))) w') := Lib.hid (fun w' h => by rw [← hQ]; exact ⟨rfl, h⟩)
    clear hQ
    go_enter Tryd.func6, Tryd.ntmps6
    go_wp2_with fail
    exact HQ0.out _ EE.out
  have q0 : (e == 0) = false := by rw [beq_eq_false_iff_ne]; exact h0
  have He := Lib.hid he; have Hl := Lib.hid hl; have Hc := Lib.hid hc; have HT := Lib.hid ht
  have se := itoa_sz he; have sl := itoa_sz hl; have sc := itoa_sz hc
  have HFI : bL (Lib.itoa l) ++ ByteArray.mk #[58] ++ bL (Lib.itoa c) ++ ByteArray.mk #[58, 32, 101, 114, 114, 111, 114, 32] ++ bL (Lib.itoa e) = bL (whL e l c) := by
    unfold whL
    rw [if_neg h0]
    unfold bL
    apply ByteArray.ext; apply Array.ext'; simp
  have HQ : Hid (∀ w', Below w.heap.size w w' → Q (.returned (.string (bL (whL e l c)))) w') := Lib.hid (fun w' h => by rw [← hQ]; exact ⟨rfl, h⟩)
  have HFIN := Lib.hid HFI
  have y1 : ¬ 9223372036854775807 < (bL (Lib.itoa l)).size + 1 := by omega
  have y2 : ¬ 9223372036854775807 < (bL (Lib.itoa l)).size + 1 + (bL (Lib.itoa c)).size := by omega
  have y3 : ¬ 9223372036854775807 < (bL (Lib.itoa l)).size + 1 + (bL (Lib.itoa c)).size + 8 := by omega
  have y4 : ¬ 9223372036854775807 < (bL (Lib.itoa l)).size + 1 + (bL (Lib.itoa c)).size + 8 + (bL (Lib.itoa e)).size := by omega
  clear he hl hc h0 hQ HFI ht
  obtain ⟨V, hV⟩ : ∃ V, w.alloc (.cells #[.int .i64 e, .int .i64 l, .int .i64 c] 28) = V := ⟨_, rfl⟩
  rw [hV] at HP EE
  have HV := Lib.hid hV
  clear hV
  go_enter Tryd.func6, Tryd.ntmps6
  go_wp2_with fail
  rw [HV.out]
  have kP0 : V.cell? ⟨w.heap.size, 0, none⟩ = some (.int .i64 e) := HP.out.cell 0
  have kP1 : V.cell? ⟨w.heap.size, 1, none⟩ = some (.int .i64 l) := HP.out.cell 1
  have kP2 : V.cell? ⟨w.heap.size, 2, none⟩ = some (.int .i64 c) := HP.out.cell 2
  have sK : ∀ X, Blk X (w.heap.size) 28 #[.int .i64 e, .int .i64 l, .int .i64 c] → (fun X => X.cell? ⟨w.heap.size, 0, none⟩ = some (.int .i64 e) ∧ X.cell? ⟨w.heap.size, 1, none⟩ = some (.int .i64 l) ∧ X.cell? ⟨w.heap.size, 2, none⟩ = some (.int .i64 c)) X := fun X hP => ⟨hP.cell 0, hP.cell 1, hP.cell 2⟩
  have LP0 := Lib.hid (HP.out.drew)
  have E0 := Lib.hid (EE.out.drew)
  clear kP0 kP1 kP2
  refine wp_region_held_drew (S := (fun X => X.cell? ⟨w.heap.size, 0, none⟩ = some (.int .i64 e) ∧ X.cell? ⟨w.heap.size, 1, none⟩ = some (.int .i64 l) ∧ X.cell? ⟨w.heap.size, 2, none⟩ = some (.int .i64 c))) (by kernel_rfl) (sK _ LP0.out) (fun hHeld => ?_)
  clear hHeld
  refine wpAnyH_take (i := 0) (v := ?_) rfl (by kernel_rfl) (by kernel_rfl) (by kernel_rfl) (fun _ _ _ h => h) (Or.inl ⟨by rfl, ?_⟩) (sK _ LP0.out) ?_
  rotate_left
  · (intro wS hSw; (try dsimp only at hSw); go_simp; try with_reducible rfl)
  simp only [Act.put, List.getElem_toArray, List.getElem_cons_zero, List.getElem_cons_succ, List.setIfInBounds_toArray, List.set_cons_zero, List.set_cons_succ]
  refine wpAnyH_take (i := 1) (v := ?_) rfl (by kernel_rfl) (by kernel_rfl) (by kernel_rfl) (fun _ _ _ h => h) (Or.inl ⟨by rfl, ?_⟩) (sK _ LP0.out) ?_
  rotate_left
  · (intro wS hSw; (try dsimp only at hSw); go_simp; try with_reducible rfl)
  simp only [Act.put, List.getElem_toArray, List.getElem_cons_zero, List.getElem_cons_succ, List.setIfInBounds_toArray, List.set_cons_zero, List.set_cons_succ]
  refine wpAnyH_take (i := 4) (v := ?_) rfl (by kernel_rfl) (by kernel_rfl) (by kernel_rfl) (fun _ _ _ h => h) (Or.inl ⟨by rfl, ?_⟩) (sK _ LP0.out) ?_
  rotate_left
  · (intro wS hSw; (try dsimp only at hSw); go_simp; try with_reducible rfl)
  simp only [Act.put, List.getElem_toArray, List.getElem_cons_zero, List.getElem_cons_succ, List.setIfInBounds_toArray, List.set_cons_zero, List.set_cons_succ]
  refine wpAnyH_take (i := 5) (v := ?_) rfl (by kernel_rfl) (by kernel_rfl) (by kernel_rfl) (fun _ _ _ h => h) (Or.inl ⟨by rfl, ?_⟩) (sK _ LP0.out) ?_
  rotate_left
  · (intro wS hSw; (try dsimp only at hSw); go_simp; try with_reducible rfl)
  simp only [Act.put, List.getElem_toArray, List.getElem_cons_zero, List.getElem_cons_succ, List.setIfInBounds_toArray, List.set_cons_zero, List.set_cons_succ]
  refine wpAnyH_take (i := 9) (v := ?_) rfl (by kernel_rfl) (by kernel_rfl) (by kernel_rfl) (fun _ _ _ h => h) (Or.inl ⟨by rfl, ?_⟩) (sK _ LP0.out) ?_
  rotate_left
  · (intro wS hSw; (try dsimp only at hSw); go_simp; try with_reducible rfl)
  simp only [Act.put, List.getElem_toArray, List.getElem_cons_zero, List.getElem_cons_succ, List.setIfInBounds_toArray, List.set_cons_zero, List.set_cons_succ]
  refine wpAnyH_take (i := 10) (v := ?_) rfl (by kernel_rfl) (by kernel_rfl) (by kernel_rfl) (fun _ _ _ h => h) (Or.inl ⟨by rfl, ?_⟩) (sK _ LP0.out) ?_
  rotate_left
  · (intro wS hSw; (try dsimp only at hSw); go_simp; try with_reducible rfl)
  simp only [Act.put, List.getElem_toArray, List.getElem_cons_zero, List.getElem_cons_succ, List.setIfInBounds_toArray, List.set_cons_zero, List.set_cons_succ]
  refine wpAnyH_ready (rs := [2]) (by kernel_rfl) (by simp) ?_
  refine AllReadyH.cons rfl (fun K hK => ?_) AllReadyH.nil
  go_simp
  refine (dofB_any l _ (tab_next HT.out E0.out) Hl.out.1 Hl.out.2).mono ?_
  rintro e r1 ⟨rfl, hb⟩
  have LP1 := Lib.hid (Blk.next (w := V.drew) LP0.out hb)
  have E1 := Lib.hid (E0.out.trans (hb.mono E0.out.size))
  clear hb
  go_wp2_with fail
  refine hK.out _ _ (sK _ LP1.out) (fun hHeld => ?_)
  clear hK K hHeld
  try simp only [Act.put, List.getElem_toArray, List.getElem_cons_zero, List.getElem_cons_succ, List.setIfInBounds_toArray, List.set_cons_zero, List.set_cons_succ]
  refine wpAnyH_take (i := 3) (v := ?_) rfl (by kernel_rfl) (by kernel_rfl) (by kernel_rfl) (fun _ _ _ h => h) (Or.inl ⟨by rfl, ?_⟩) (sK _ LP1.out) ?_
  rotate_left
  · (intro wS hSw; (try dsimp only at hSw); go_simp; try with_reducible rfl)
  simp only [Act.put, List.getElem_toArray, List.getElem_cons_zero, List.getElem_cons_succ, List.setIfInBounds_toArray, List.set_cons_zero, List.set_cons_succ]
  refine wpAnyH_ready (rs := [6]) (by kernel_rfl) (by simp) ?_
  refine AllReadyH.cons rfl (fun K hK => ?_) AllReadyH.nil
  go_simp
  refine (dofB_any c _ (tab_next HT.out E1.out) Hc.out.1 Hc.out.2).mono ?_
  rintro e r2 ⟨rfl, hb⟩
  have LP2 := Lib.hid (Blk.next (w := r1) LP1.out hb)
  have E2 := Lib.hid (E1.out.trans (hb.mono E1.out.size))
  clear hb
  go_wp2_with fail
  refine hK.out _ _ (sK _ LP2.out) (fun hHeld => ?_)
  clear hK K hHeld
  try simp only [Act.put, List.getElem_toArray, List.getElem_cons_zero, List.getElem_cons_succ, List.setIfInBounds_toArray, List.set_cons_zero, List.set_cons_succ]
  refine wpAnyH_take (i := 7) (v := ?_) rfl (by kernel_rfl) (by kernel_rfl) (by kernel_rfl) (fun _ _ _ h => h) (Or.inl ⟨by rfl, ?_⟩) (sK _ LP2.out) ?_
  rotate_left
  · (intro wS hSw; (try dsimp only at hSw); go_simp; try with_reducible rfl)
  simp only [Act.put, List.getElem_toArray, List.getElem_cons_zero, List.getElem_cons_succ, List.setIfInBounds_toArray, List.set_cons_zero, List.set_cons_succ]
  refine wpAnyH_take (i := 8) (v := ?_) rfl (by kernel_rfl) (by kernel_rfl) (by kernel_rfl) (fun _ _ _ h => h) (Or.inl ⟨by rfl, ?_⟩) (sK _ LP2.out) ?_
  rotate_left
  · (intro wS hSw; (try dsimp only at hSw); go_simp; try with_reducible rfl)
  simp only [Act.put, List.getElem_toArray, List.getElem_cons_zero, List.getElem_cons_succ, List.setIfInBounds_toArray, List.set_cons_zero, List.set_cons_succ]
  refine wpAnyH_ready (rs := [11]) (by kernel_rfl) (by simp) ?_
  refine AllReadyH.cons rfl (fun K hK => ?_) AllReadyH.nil
  go_simp
  refine (dofB_any e _ (tab_next HT.out E2.out) He.out.1 He.out.2).mono ?_
  rintro e r3 ⟨rfl, hb⟩
  have LP3 := Lib.hid (Blk.next (w := r2) LP2.out hb)
  have E3 := Lib.hid (E2.out.trans (hb.mono E2.out.size))
  clear hb
  go_wp2_with fail
  refine hK.out _ _ (sK _ LP3.out) (fun hHeld => ?_)
  clear hK K hHeld
  try simp only [Act.put, List.getElem_toArray, List.getElem_cons_zero, List.getElem_cons_succ, List.setIfInBounds_toArray, List.set_cons_zero, List.set_cons_succ]
  refine wpAnyH_take (i := 12) (v := ?_) rfl (by kernel_rfl) (by kernel_rfl) (by kernel_rfl) (fun _ _ _ h => h) (Or.inl ⟨by rfl, ?_⟩) (sK _ LP3.out) ?_
  rotate_left
  · (intro wS hSw; (try dsimp only at hSw); go_simp; try with_reducible rfl)
  simp only [Act.put, List.getElem_toArray, List.getElem_cons_zero, List.getElem_cons_succ, List.setIfInBounds_toArray, List.set_cons_zero, List.set_cons_succ]
  refine wpAnyH_take (i := 13) (v := ?_) rfl (by kernel_rfl) (by kernel_rfl) (by kernel_rfl) (fun _ _ _ h => h) (Or.inl ⟨by rfl, ?_⟩) (sK _ LP3.out) ?_
  rotate_left
  · (intro wS hSw; (try dsimp only at hSw); go_simp; try with_reducible rfl)
  simp only [Act.put, List.getElem_toArray, List.getElem_cons_zero, List.getElem_cons_succ, List.setIfInBounds_toArray, List.set_cons_zero, List.set_cons_succ]
  refine wpAnyH_done (by kernel_rfl) ?_ _
  go_wp2_with fail
  first | rw [HFIN.out] | skip
  exact HQ.out _ E3.out
set_option maxRecDepth 100000 in
set_option maxHeartbeats 8000000 in
theorem dwhere_any (e l c : Int) (w : World) (he : I64 e) (hl : I64 l) (hc : I64 c) : Calls Tryd.prog 7 #[.agg #[.int .i64 e, .int .i64 l, .int .i64 c]] w fun en w' => en = .returned (.string (bL (whL e l c))) ∧ Below w.heap.size w w' := by
  obtain ⟨Q, hQ⟩ : ∃ Q : Ending → World → Prop, (fun (en : Ending) (w' : World) => en = .returned (.string (bL (whL e l c))) ∧ Below w.heap.size w w') = Q := ⟨_, rfl⟩
  rw [hQ]
  have EE := Lib.hid ((Below.refl w.heap.size w).alloc (Nat.le_refl _) (.cells #[.int .i64 e, .int .i64 l, .int .i64 c] 28))
  have HP := Lib.hid (Blk.new w #[.int .i64 e, .int .i64 l, .int .i64 c] 28)
  by_cases h0 : e = 0
  · subst h0
    have HQ0 : Hid (∀ w', Below w.heap.size w w' → Q (.returned (.string (ByteArray.mk #[]))) w') := Lib.hid (fun w' h => by rw [← hQ]; exact ⟨rfl, h⟩)
    clear hQ
    go_enter Tryd.func7, Tryd.ntmps7
    go_wp2_with fail
    exact HQ0.out _ EE.out
  have q0 : (e == 0) = false := by rw [beq_eq_false_iff_ne]; exact h0
  have He := Lib.hid he; have Hl := Lib.hid hl; have Hc := Lib.hid hc
  have se := itoa_sz he; have sl := itoa_sz hl; have sc := itoa_sz hc
  have HFI : bL (Lib.itoa l) ++ ByteArray.mk #[58] ++ bL (Lib.itoa c) ++ ByteArray.mk #[58, 32, 101, 114, 114, 111, 114, 32] ++ bL (Lib.itoa e) = bL (whL e l c) := by
    unfold whL
    rw [if_neg h0]
    unfold bL
    apply ByteArray.ext; apply Array.ext'; simp
  have HQ : Hid (∀ w', Below w.heap.size w w' → Q (.returned (.string (bL (whL e l c)))) w') := Lib.hid (fun w' h => by rw [← hQ]; exact ⟨rfl, h⟩)
  have HFIN := Lib.hid HFI
  have y1 : ¬ 9223372036854775807 < (bL (Lib.itoa l)).size + 1 := by omega
  have y2 : ¬ 9223372036854775807 < (bL (Lib.itoa l)).size + 1 + (bL (Lib.itoa c)).size := by omega
  have y3 : ¬ 9223372036854775807 < (bL (Lib.itoa l)).size + 1 + (bL (Lib.itoa c)).size + 8 := by omega
  have y4 : ¬ 9223372036854775807 < (bL (Lib.itoa l)).size + 1 + (bL (Lib.itoa c)).size + 8 + (bL (Lib.itoa e)).size := by omega
  clear he hl hc h0 hQ HFI
  obtain ⟨V, hV⟩ : ∃ V, w.alloc (.cells #[.int .i64 e, .int .i64 l, .int .i64 c] 28) = V := ⟨_, rfl⟩
  rw [hV] at HP EE
  have HV := Lib.hid hV
  clear hV
  go_enter Tryd.func7, Tryd.ntmps7
  go_wp2_with fail
  rw [HV.out]
  have kP0 : V.cell? ⟨w.heap.size, 0, none⟩ = some (.int .i64 e) := HP.out.cell 0
  have kP1 : V.cell? ⟨w.heap.size, 1, none⟩ = some (.int .i64 l) := HP.out.cell 1
  have kP2 : V.cell? ⟨w.heap.size, 2, none⟩ = some (.int .i64 c) := HP.out.cell 2
  have sK : ∀ X, Blk X (w.heap.size) 28 #[.int .i64 e, .int .i64 l, .int .i64 c] → (fun X => X.cell? ⟨w.heap.size, 0, none⟩ = some (.int .i64 e) ∧ X.cell? ⟨w.heap.size, 1, none⟩ = some (.int .i64 l) ∧ X.cell? ⟨w.heap.size, 2, none⟩ = some (.int .i64 c)) X := fun X hP => ⟨hP.cell 0, hP.cell 1, hP.cell 2⟩
  have LP0 := Lib.hid (HP.out.drew)
  have E0 := Lib.hid (EE.out.drew)
  clear kP0 kP1 kP2
  refine wp_region_held_drew (S := (fun X => X.cell? ⟨w.heap.size, 0, none⟩ = some (.int .i64 e) ∧ X.cell? ⟨w.heap.size, 1, none⟩ = some (.int .i64 l) ∧ X.cell? ⟨w.heap.size, 2, none⟩ = some (.int .i64 c))) (by kernel_rfl) (sK _ LP0.out) (fun hHeld => ?_)
  clear hHeld
  refine wpAnyH_take (i := 0) (v := ?_) rfl (by kernel_rfl) (by kernel_rfl) (by kernel_rfl) (fun _ _ _ h => h) (Or.inl ⟨by rfl, ?_⟩) (sK _ LP0.out) ?_
  rotate_left
  · (intro wS hSw; (try dsimp only at hSw); go_simp; try with_reducible rfl)
  simp only [Act.put, List.getElem_toArray, List.getElem_cons_zero, List.getElem_cons_succ, List.setIfInBounds_toArray, List.set_cons_zero, List.set_cons_succ]
  refine wpAnyH_take (i := 1) (v := ?_) rfl (by kernel_rfl) (by kernel_rfl) (by kernel_rfl) (fun _ _ _ h => h) (Or.inl ⟨by rfl, ?_⟩) (sK _ LP0.out) ?_
  rotate_left
  · (intro wS hSw; (try dsimp only at hSw); go_simp; try with_reducible rfl)
  simp only [Act.put, List.getElem_toArray, List.getElem_cons_zero, List.getElem_cons_succ, List.setIfInBounds_toArray, List.set_cons_zero, List.set_cons_succ]
  refine wpAnyH_take (i := 4) (v := ?_) rfl (by kernel_rfl) (by kernel_rfl) (by kernel_rfl) (fun _ _ _ h => h) (Or.inl ⟨by rfl, ?_⟩) (sK _ LP0.out) ?_
  rotate_left
  · (intro wS hSw; (try dsimp only at hSw); go_simp; try with_reducible rfl)
  simp only [Act.put, List.getElem_toArray, List.getElem_cons_zero, List.getElem_cons_succ, List.setIfInBounds_toArray, List.set_cons_zero, List.set_cons_succ]
  refine wpAnyH_take (i := 5) (v := ?_) rfl (by kernel_rfl) (by kernel_rfl) (by kernel_rfl) (fun _ _ _ h => h) (Or.inl ⟨by rfl, ?_⟩) (sK _ LP0.out) ?_
  rotate_left
  · (intro wS hSw; (try dsimp only at hSw); go_simp; try with_reducible rfl)
  simp only [Act.put, List.getElem_toArray, List.getElem_cons_zero, List.getElem_cons_succ, List.setIfInBounds_toArray, List.set_cons_zero, List.set_cons_succ]
  refine wpAnyH_take (i := 9) (v := ?_) rfl (by kernel_rfl) (by kernel_rfl) (by kernel_rfl) (fun _ _ _ h => h) (Or.inl ⟨by rfl, ?_⟩) (sK _ LP0.out) ?_
  rotate_left
  · (intro wS hSw; (try dsimp only at hSw); go_simp; try with_reducible rfl)
  simp only [Act.put, List.getElem_toArray, List.getElem_cons_zero, List.getElem_cons_succ, List.setIfInBounds_toArray, List.set_cons_zero, List.set_cons_succ]
  refine wpAnyH_take (i := 10) (v := ?_) rfl (by kernel_rfl) (by kernel_rfl) (by kernel_rfl) (fun _ _ _ h => h) (Or.inl ⟨by rfl, ?_⟩) (sK _ LP0.out) ?_
  rotate_left
  · (intro wS hSw; (try dsimp only at hSw); go_simp; try with_reducible rfl)
  simp only [Act.put, List.getElem_toArray, List.getElem_cons_zero, List.getElem_cons_succ, List.setIfInBounds_toArray, List.set_cons_zero, List.set_cons_succ]
  refine wpAnyH_ready (rs := [2]) (by kernel_rfl) (by simp) ?_
  refine AllReadyH.cons rfl (fun K hK => ?_) AllReadyH.nil
  go_simp
  refine (rofB_any l _ Hl.out.1 Hl.out.2).mono ?_
  rintro e r1 ⟨rfl, hb⟩
  have LP1 := Lib.hid (Blk.next (w := V.drew) LP0.out hb)
  have E1 := Lib.hid (E0.out.trans (hb.mono E0.out.size))
  clear hb
  go_wp2_with fail
  refine hK.out _ _ (sK _ LP1.out) (fun hHeld => ?_)
  clear hK K hHeld
  try simp only [Act.put, List.getElem_toArray, List.getElem_cons_zero, List.getElem_cons_succ, List.setIfInBounds_toArray, List.set_cons_zero, List.set_cons_succ]
  refine wpAnyH_take (i := 3) (v := ?_) rfl (by kernel_rfl) (by kernel_rfl) (by kernel_rfl) (fun _ _ _ h => h) (Or.inl ⟨by rfl, ?_⟩) (sK _ LP1.out) ?_
  rotate_left
  · (intro wS hSw; (try dsimp only at hSw); go_simp; try with_reducible rfl)
  simp only [Act.put, List.getElem_toArray, List.getElem_cons_zero, List.getElem_cons_succ, List.setIfInBounds_toArray, List.set_cons_zero, List.set_cons_succ]
  refine wpAnyH_ready (rs := [6]) (by kernel_rfl) (by simp) ?_
  refine AllReadyH.cons rfl (fun K hK => ?_) AllReadyH.nil
  go_simp
  refine (rofB_any c _ Hc.out.1 Hc.out.2).mono ?_
  rintro e r2 ⟨rfl, hb⟩
  have LP2 := Lib.hid (Blk.next (w := r1) LP1.out hb)
  have E2 := Lib.hid (E1.out.trans (hb.mono E1.out.size))
  clear hb
  go_wp2_with fail
  refine hK.out _ _ (sK _ LP2.out) (fun hHeld => ?_)
  clear hK K hHeld
  try simp only [Act.put, List.getElem_toArray, List.getElem_cons_zero, List.getElem_cons_succ, List.setIfInBounds_toArray, List.set_cons_zero, List.set_cons_succ]
  refine wpAnyH_take (i := 7) (v := ?_) rfl (by kernel_rfl) (by kernel_rfl) (by kernel_rfl) (fun _ _ _ h => h) (Or.inl ⟨by rfl, ?_⟩) (sK _ LP2.out) ?_
  rotate_left
  · (intro wS hSw; (try dsimp only at hSw); go_simp; try with_reducible rfl)
  simp only [Act.put, List.getElem_toArray, List.getElem_cons_zero, List.getElem_cons_succ, List.setIfInBounds_toArray, List.set_cons_zero, List.set_cons_succ]
  refine wpAnyH_take (i := 8) (v := ?_) rfl (by kernel_rfl) (by kernel_rfl) (by kernel_rfl) (fun _ _ _ h => h) (Or.inl ⟨by rfl, ?_⟩) (sK _ LP2.out) ?_
  rotate_left
  · (intro wS hSw; (try dsimp only at hSw); go_simp; try with_reducible rfl)
  simp only [Act.put, List.getElem_toArray, List.getElem_cons_zero, List.getElem_cons_succ, List.setIfInBounds_toArray, List.set_cons_zero, List.set_cons_succ]
  refine wpAnyH_ready (rs := [11]) (by kernel_rfl) (by simp) ?_
  refine AllReadyH.cons rfl (fun K hK => ?_) AllReadyH.nil
  go_simp
  refine (rofB_any e _ He.out.1 He.out.2).mono ?_
  rintro e r3 ⟨rfl, hb⟩
  have LP3 := Lib.hid (Blk.next (w := r2) LP2.out hb)
  have E3 := Lib.hid (E2.out.trans (hb.mono E2.out.size))
  clear hb
  go_wp2_with fail
  refine hK.out _ _ (sK _ LP3.out) (fun hHeld => ?_)
  clear hK K hHeld
  try simp only [Act.put, List.getElem_toArray, List.getElem_cons_zero, List.getElem_cons_succ, List.setIfInBounds_toArray, List.set_cons_zero, List.set_cons_succ]
  refine wpAnyH_take (i := 12) (v := ?_) rfl (by kernel_rfl) (by kernel_rfl) (by kernel_rfl) (fun _ _ _ h => h) (Or.inl ⟨by rfl, ?_⟩) (sK _ LP3.out) ?_
  rotate_left
  · (intro wS hSw; (try dsimp only at hSw); go_simp; try with_reducible rfl)
  simp only [Act.put, List.getElem_toArray, List.getElem_cons_zero, List.getElem_cons_succ, List.setIfInBounds_toArray, List.set_cons_zero, List.set_cons_succ]
  refine wpAnyH_take (i := 13) (v := ?_) rfl (by kernel_rfl) (by kernel_rfl) (by kernel_rfl) (fun _ _ _ h => h) (Or.inl ⟨by rfl, ?_⟩) (sK _ LP3.out) ?_
  rotate_left
  · (intro wS hSw; (try dsimp only at hSw); go_simp; try with_reducible rfl)
  simp only [Act.put, List.getElem_toArray, List.getElem_cons_zero, List.getElem_cons_succ, List.setIfInBounds_toArray, List.set_cons_zero, List.set_cons_succ]
  refine wpAnyH_done (by kernel_rfl) ?_ _
  go_wp2_with fail
  first | rw [HFIN.out] | skip
  exact HQ.out _ E3.out
end Go.Proofs.YtmnildjcnpfddaaDoor
