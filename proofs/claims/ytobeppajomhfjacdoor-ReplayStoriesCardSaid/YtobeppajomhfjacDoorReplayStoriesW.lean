/- The walk of ReplayStories: it answers true for every input, and leaves all old blocks as they were. No condition but the laid tables, which are tied to the text. -/
import Derived.Test.YtobeppajomhfjacDoorRows
import Derived.Test.YtobeppajomhfjacDoorRowKit
import Derived.Test.YtobeppajomhfjacDoorRowS
import Derived.Test.YtobeppajomhfjacDoorRowZ
import Derived.Test.YtobeppajomhfjacDoorRowV
import Derived.Test.YtobeppajomhfjacDoorRowW
import Derived.Test.YtobeppajomhfjacDoorSlicesEq
import Derived.Test.YtobeppajomhfjacDoorBlocks
import Derived.Test.YtobeppajomhfjacDoorAtKit
import Derived.Test.YtobeppajomhfjacDoorTrackA
import Derived.Test.YtobeppajomhfjacDoorTab
import Derived.Test.YtobeppajomhfjacDoorDigB
import Derived.Test.YtobeppajomhfjacDoorStoA
import Derived.Test.YtobeppajomhfjacDoorStoB
import Derived.Test.YtobeppajomhfjacDoorStoC
import Derived.WalkKit
import Derived.ProofKit
import Derived.OpenShut
import Derived.Deep.QuietTactic
import Derived.BigQuiet
import Derived.Lib.SmallJoins
import Derived.Lib.Hide
import Derived.WalkSpells
import Derived.WalkLawsBesides
import Derived.Lib.LaidTab
import Derived.Lib.LaidU8
import Derived.OwnWalk
import Derived.BigRegion
import Derived.Deep.LoopGhost
import Derived.Deep.RegionHeld3
import Derived.IntWalk
namespace Go.Proofs.YtobeppajomhfjacDoor.replayStories
open Go.ChangeShapes Go.WideShapes Go.ChangeAt Go.RowKit Go.Joins
set_option linter.unusedSimpArgs false
set_option linter.unusedVariables false

theorem gT : Tryd.prog.globalNamed "internal/strconv.uint64pow10" = some 1 := by kernel_rfl
theorem gTType : (Tryd.prog.globals[1]?).map (·.type) = some 67 := by kernel_rfl
theorem tab_of_laid {w : World} (h0 : laidMetH Tryd.prog Rows.replayStoriesRow.laid w) : Tab w := by
  have h : laidMet Tryd.prog Rows.replayStoriesRow.laid w := h0
  obtain ⟨g', t', cs, fuel, p, hg', ht', hvar, hd⟩ := Lib.laidMet.reads h (.tail _ (.tail _ (.head _)))
  obtain rfl := Option.some.inj (gT.symm.trans hg')
  obtain rfl := Option.some.inj (gTType.symm.trans ht')
  unfold Tab Lib.TabIs
  rw [hvar, ← Lib.cells_of_tab (zs := Lib.pow10Tab) Tryd.underlying67 Tryd.underlying43 (by kernel_rfl) (by kernel_rfl) hd]
set_option maxRecDepth 100000 in
set_option maxHeartbeats 40000000 in
theorem walk {T A : Option Addr} {ct d nt n : Nat} {u id : Int} {z : Nat → Nat → Int} {B : Nat → Option Addr} {ln cp : Nat → Nat} {v : Nat → Nat → Nat → Value} {w : World}
    (l1 : nt ≤ ct) (m1 : ct ≤ maxLen) (ha : RdZ w 7 T nt z) (e1 : T = none → ct = 0) (l2 : n ≤ d) (m2 : d ≤ maxLen) (hb : RdW w 4 shLeg A n B ln cp v) (e2 : A = none → d = 0) (wu : (Lit.int .i64 u).wf = true) (wid : (Lit.int .i64 id).wf = true) (hL : laidMetH Tryd.prog Rows.replayStoriesRow.laid w) :
    Calls Tryd.prog 3 #[.agg #[.slice T nt ct, .slice A n d, .int .i64 u], .int .i64 id] w fun e w' => e = .returned (.bool true) ∧ Below w.heap.size w w' := by
  have hT := tab_of_laid hL
  clear hL
  have hM : maxLen ≤ 9223372036854775807 := by decide
  have HA := Lib.hid ha; have HTB := Lib.hid hT; have HW := Lib.hid hb
  have BG := Blk.new w #[.slice T nt ct, .slice A n d, .int .i64 u] 25
  have BE : Below w.heap.size w (w.alloc (.cells #[.slice T nt ct, .slice A n d, .int .i64 u] 25)) := (Below.refl w.heap.size w).alloc (Nat.le_refl _) _
  have HB := Lib.hid BG; have EE := Lib.hid BE
  have KF := Lib.hid (few_any (w := w.alloc (.cells #[.slice T nt ct, .slice A n d, .int .i64 u] 25)) (u := u) l1 m1 (ha.kept ((Below.refl _ _).alloc (Nat.le_refl _) _)) l2 m2 (hb.kept ((Below.refl _ _).alloc (Nat.le_refl _) _)))
  have KS := Lib.hid (fun W (h : Below w.heap.size w W) => story_any (A := A) (d := d) (n := n) (u := u) (id := id) W (tabB HTB.out h) l1 m1 (HA.out.kept h) wid)
  have KL := Lib.hid (fun W (h : Below w.heap.size w W) => alive51 W (tabB HTB.out h))
  have q0 := BG.cell 0
  have q1 := BG.cell 1
  have q2 := BG.cell 2
  clear ha hb hT BG BE
  go_enter Tryd.func3, Tryd.ntmps3
  go_wp2_with fail
  refine KF.out.mono ?_
  rintro e w1 ⟨r, rfl, hb⟩
  replace HB := Lib.hid (HB.out.next hb); replace EE := Lib.hid (EE.out.trans (hb.mono EE.out.size))
  clear hb q0 q1 q2 KF
  cases r with
  | false =>
    go_wp2_with fail
    go_ret
    exact ⟨rfl, EE.out⟩
  | true =>
    have q0 : w1.cell? ⟨w.heap.size, 0, none⟩ = some (.slice T nt ct) := HB.out.cell 0
    have q1 : w1.cell? ⟨w.heap.size, 1, none⟩ = some (.slice A n d) := HB.out.cell 1
    have q2 : w1.cell? ⟨w.heap.size, 2, none⟩ = some (.int .i64 u) := HB.out.cell 2
    go_wp2_with fail
    refine (KS.out _ EE.out).mono ?_
    rintro e w2 ⟨rfl, hb⟩
    replace HB := Lib.hid (HB.out.next hb); replace EE := Lib.hid (EE.out.trans (hb.mono EE.out.size))
    clear hb q0 q1 q2 KS
    have q0 : w2.cell? ⟨w.heap.size, 0, none⟩ = some (.slice T nt ct) := HB.out.cell 0
    by_cases hn : id < 0
    · have e : stoF z nt id = [] := if_neg (by omega)
      rw [e]
      go_wp2_with fail
      refine (KL.out _ EE.out).mono ?_
      rintro e w3 ⟨rfl, hb⟩
      replace EE := Lib.hid (EE.out.trans (hb.mono EE.out.size))
      clear hb q0
      go_wp2_with fail
      go_ret
      exact ⟨rfl, EE.out⟩
    obtain ⟨k, rfl⟩ : ∃ k : Nat, id = k := ⟨id.toNat, by omega⟩
    by_cases hk : nt ≤ k
    · have e : stoF z nt k = [] := if_neg (by omega)
      rw [e]
      have hki : (nt : Int) ≤ (k : Int) := by omega
      go_wp2_with fail
      refine (KL.out _ EE.out).mono ?_
      rintro e w3 ⟨rfl, hb⟩
      replace EE := Lib.hid (EE.out.trans (hb.mono EE.out.size))
      clear hb q0
      go_wp2_with fail
      go_ret
      exact ⟨rfl, EE.out⟩
    have hkn : k < nt := by omega
    have hki : (k : Int) < (nt : Int) := by omega
    have hki2 : ¬ (nt : Int) ≤ (k : Int) := by omega
    have e : stoF z nt k = storyL (z k 0) (z k 1) (z k 2) (z k 3) (z k 4) (z k 5) (z k 6) := if_pos (by omega)
    rw [e]
    have ha := HA.out
    obtain ⟨b, o, rfl, _, hcell⟩ := rdZ_row ha (by omega) (by omega)
    have c0 : w.cell? ⟨b, o + k * 7, none⟩ = _ := hcell k 0 hkn (by omega)
    have c1 : w.cell? ⟨b, o + k * 7 + 1, none⟩ = _ := hcell k 1 hkn (by omega)
    have c2 : w.cell? ⟨b, o + k * 7 + 2, none⟩ = _ := hcell k 2 hkn (by omega)
    have c3 : w.cell? ⟨b, o + k * 7 + 3, none⟩ = _ := hcell k 3 hkn (by omega)
    have c4 : w.cell? ⟨b, o + k * 7 + 4, none⟩ = _ := hcell k 4 hkn (by omega)
    have c5 : w.cell? ⟨b, o + k * 7 + 5, none⟩ = _ := hcell k 5 hkn (by omega)
    have c6 : w.cell? ⟨b, o + k * 7 + 6, none⟩ = _ := hcell k 6 hkn (by omega)
    obtain ⟨g00, g01⟩ := rdZ_wf ha hkn (show 0 < 7 by omega)
    obtain ⟨g10, g11⟩ := rdZ_wf ha hkn (show 1 < 7 by omega)
    obtain ⟨g20, g21⟩ := rdZ_wf ha hkn (show 2 < 7 by omega)
    obtain ⟨g30, g31⟩ := rdZ_wf ha hkn (show 3 < 7 by omega)
    obtain ⟨g40, g41⟩ := rdZ_wf ha hkn (show 4 < 7 by omega)
    obtain ⟨g50, g51⟩ := rdZ_wf ha hkn (show 5 < 7 by omega)
    obtain ⟨g60, g61⟩ := rdZ_wf ha hkn (show 6 < 7 by omega)
    obtain ⟨t0, ht0⟩ : ∃ x, z k 0 = x := ⟨_, rfl⟩
    rw [ht0] at c0 g00 g01 ⊢
    have d0 := (EE.out.cell (p := ⟨b, o + k * 7, none⟩) (lt_of_cell c0)).trans c0
    clear c0 ht0
    obtain ⟨t1, ht1⟩ : ∃ x, z k 1 = x := ⟨_, rfl⟩
    rw [ht1] at c1 g10 g11 ⊢
    have d1 := (EE.out.cell (p := ⟨b, o + k * 7 + 1, none⟩) (lt_of_cell c1)).trans c1
    clear c1 ht1
    obtain ⟨t2, ht2⟩ : ∃ x, z k 2 = x := ⟨_, rfl⟩
    rw [ht2] at c2 g20 g21 ⊢
    have d2 := (EE.out.cell (p := ⟨b, o + k * 7 + 2, none⟩) (lt_of_cell c2)).trans c2
    clear c2 ht2
    obtain ⟨t3, ht3⟩ : ∃ x, z k 3 = x := ⟨_, rfl⟩
    rw [ht3] at c3 g30 g31 ⊢
    have d3 := (EE.out.cell (p := ⟨b, o + k * 7 + 3, none⟩) (lt_of_cell c3)).trans c3
    clear c3 ht3
    obtain ⟨t4, ht4⟩ : ∃ x, z k 4 = x := ⟨_, rfl⟩
    rw [ht4] at c4 g40 g41 ⊢
    have d4 := (EE.out.cell (p := ⟨b, o + k * 7 + 4, none⟩) (lt_of_cell c4)).trans c4
    clear c4 ht4
    obtain ⟨t5, ht5⟩ : ∃ x, z k 5 = x := ⟨_, rfl⟩
    rw [ht5] at c5 g50 g51 ⊢
    have d5 := (EE.out.cell (p := ⟨b, o + k * 7 + 5, none⟩) (lt_of_cell c5)).trans c5
    clear c5 ht5
    obtain ⟨t6, ht6⟩ : ∃ x, z k 6 = x := ⟨_, rfl⟩
    rw [ht6] at c6 g60 g61 ⊢
    have d6 := (EE.out.cell (p := ⟨b, o + k * 7 + 6, none⟩) (lt_of_cell c6)).trans c6
    clear c6 ht6
    have L0 := Lib.itoa_length_le t0 (by omega) (by omega)
    have L1 := Lib.itoa_length_le t1 (by omega) (by omega)
    have L2 := Lib.itoa_length_le t2 (by omega) (by omega)
    have L3 := Lib.itoa_length_le t3 (by omega) (by omega)
    have L4 := Lib.itoa_length_le t4 (by omega) (by omega)
    have L5 := Lib.itoa_length_le t5 (by omega) (by omega)
    have L6 := Lib.itoa_length_le t6 (by omega) (by omega)
    have hst : storyL t0 t1 t2 t3 t4 t5 t6 = if 0 ≤ t6 then cmL t0 t1 t2 t3 ++ [44, 32] ++ inTL t5 t4 ++ [44, 32] ++ outTL t6 else if 0 ≤ t5 then cmL t0 t1 t2 t3 ++ [44, 32] ++ inTL t5 t4 ++ [44, 32, 114, 105, 100, 101, 115] else cmL t0 t1 t2 t3 ++ [44, 32, 119, 97, 105, 116, 115] := rfl
    unfold cmL inTL outTL at hst
    have D0 := Lib.hid (fun W => rof_any t0 W (by omega) (by omega))
    have D1 := Lib.hid (fun W => rof_any t1 W (by omega) (by omega))
    have D2 := Lib.hid (fun W => rof_any t2 W (by omega) (by omega))
    have D3 := Lib.hid (fun W => rof_any t3 W (by omega) (by omega))
    have D4 := Lib.hid (fun W => rof_any t4 W (by omega) (by omega))
    have D5 := Lib.hid (fun W => rof_any t5 W (by omega) (by omega))
    have D6 := Lib.hid (fun W => rof_any t6 W (by omega) (by omega))
    obtain ⟨I0, hI0⟩ : ∃ l, Lib.itoa t0 = l := ⟨_, rfl⟩
    rw [hI0] at L0 D0 hst
    obtain ⟨I1, hI1⟩ : ∃ l, Lib.itoa t1 = l := ⟨_, rfl⟩
    rw [hI1] at L1 D1 hst
    obtain ⟨I2, hI2⟩ : ∃ l, Lib.itoa t2 = l := ⟨_, rfl⟩
    rw [hI2] at L2 D2 hst
    obtain ⟨I3, hI3⟩ : ∃ l, Lib.itoa t3 = l := ⟨_, rfl⟩
    rw [hI3] at L3 D3 hst
    obtain ⟨I4, hI4⟩ : ∃ l, Lib.itoa t4 = l := ⟨_, rfl⟩
    rw [hI4] at L4 D4 hst
    obtain ⟨I5, hI5⟩ : ∃ l, Lib.itoa t5 = l := ⟨_, rfl⟩
    rw [hI5] at L5 D5 hst
    obtain ⟨I6, hI6⟩ : ∃ l, Lib.itoa t6 = l := ⟨_, rfl⟩
    rw [hI6] at L6 D6 hst
    obtain ⟨SL, hSL⟩ : ∃ l, storyL t0 t1 t2 t3 t4 t5 t6 = l := ⟨_, rfl⟩
    rw [hSL] at hst ⊢
    have HSL := Lib.hid hst
    have HLE := Lib.hid (And.intro L0 (And.intro L1 (And.intro L2 (And.intro L3 (And.intro L4 (And.intro L5 L6))))))
    clear hst hSL hI0 L0 g00 g01 hI1 L1 g10 g11 hI2 L2 g20 g21 hI3 L3 g30 g31 hI4 L4 g40 g41 hI5 L5 g50 g51 hI6 L6 g60 g61 hcell ha e
    go_wp2_with fail
    have BX : Blk (w2.alloc (.cells #[.int .i64 t0, .int .i64 t1, .int .i64 t2, .int .i64 t3, .int .i64 t4, .int .i64 t5, .int .i64 t6] 30)) w2.heap.size 30 #[.int .i64 t0, .int .i64 t1, .int .i64 t2, .int .i64 t3, .int .i64 t4, .int .i64 t5, .int .i64 t6] := Blk.new w2 _ _
    have BE2 : Below w.heap.size w (w2.alloc (.cells #[.int .i64 t0, .int .i64 t1, .int .i64 t2, .int .i64 t3, .int .i64 t4, .int .i64 t5, .int .i64 t6] 30)) := EE.out.alloc EE.out.size _
    obtain ⟨g, hg⟩ : ∃ g, w2.heap.size = g := ⟨_, rfl⟩
    obtain ⟨V0, hV0⟩ : ∃ V, (w2.alloc (.cells #[.int .i64 t0, .int .i64 t1, .int .i64 t2, .int .i64 t3, .int .i64 t4, .int .i64 t5, .int .i64 t6] 30)) = V := ⟨_, rfl⟩
    rw [hg] at BX ⊢
    rw [hV0] at BX BE2 ⊢
    have HG := Lib.hid BX; replace EE := Lib.hid BE2
    clear BX BE2 hV0 hg HB q0 d0 d1 d2 d3 d4 d5 d6
    have kG0 : V0.cell? ⟨g, 0, none⟩ = some (.int .i64 t0) := HG.out.cell 0
    have kG1 : V0.cell? ⟨g, 1, none⟩ = some (.int .i64 t1) := HG.out.cell 1
    have kG2 : V0.cell? ⟨g, 2, none⟩ = some (.int .i64 t2) := HG.out.cell 2
    have kG3 : V0.cell? ⟨g, 3, none⟩ = some (.int .i64 t3) := HG.out.cell 3
    have kG4 : V0.cell? ⟨g, 4, none⟩ = some (.int .i64 t4) := HG.out.cell 4
    have kG5 : V0.cell? ⟨g, 5, none⟩ = some (.int .i64 t5) := HG.out.cell 5
    have kG6 : V0.cell? ⟨g, 6, none⟩ = some (.int .i64 t6) := HG.out.cell 6
    obtain ⟨l0, l1', l2', l3, l4, l5, l6⟩ := HLE.out
    have y0 : ¬ 9223372036854775807 < I0.length + 9 := by omega
    have y1 : ¬ 9223372036854775807 < I0.length + 9 + I1.length := by omega
    have y2 : ¬ 9223372036854775807 < I0.length + 9 + I1.length + 6 := by omega
    have y3 : ¬ 9223372036854775807 < I0.length + 9 + I1.length + 6 + I2.length := by omega
    have y4 : ¬ 9223372036854775807 < I0.length + 9 + I1.length + 6 + I2.length + 4 := by omega
    have y5 : ¬ 9223372036854775807 < I0.length + 9 + I1.length + 6 + I2.length + 4 + I3.length := by omega
    go_wp2_with fail
    have sK : ∀ X, Blk X (g) 30 #[.int .i64 t0, .int .i64 t1, .int .i64 t2, .int .i64 t3, .int .i64 t4, .int .i64 t5, .int .i64 t6] → (fun X => X.cell? ⟨g, 0, none⟩ = some (.int .i64 t0) ∧ X.cell? ⟨g, 1, none⟩ = some (.int .i64 t1) ∧ X.cell? ⟨g, 2, none⟩ = some (.int .i64 t2) ∧ X.cell? ⟨g, 3, none⟩ = some (.int .i64 t3) ∧ X.cell? ⟨g, 4, none⟩ = some (.int .i64 t4) ∧ X.cell? ⟨g, 5, none⟩ = some (.int .i64 t5) ∧ X.cell? ⟨g, 6, none⟩ = some (.int .i64 t6)) X := fun X hG => ⟨hG.cell 0, hG.cell 1, hG.cell 2, hG.cell 3, hG.cell 4, hG.cell 5, hG.cell 6⟩
    have LG0 := Lib.hid (HG.out.drew)
    have E0 := Lib.hid (EE.out.drew)
    clear kG0 kG1 kG2 kG3 kG4 kG5 kG6
    refine wp_region_held_drew (S := (fun X => X.cell? ⟨g, 0, none⟩ = some (.int .i64 t0) ∧ X.cell? ⟨g, 1, none⟩ = some (.int .i64 t1) ∧ X.cell? ⟨g, 2, none⟩ = some (.int .i64 t2) ∧ X.cell? ⟨g, 3, none⟩ = some (.int .i64 t3) ∧ X.cell? ⟨g, 4, none⟩ = some (.int .i64 t4) ∧ X.cell? ⟨g, 5, none⟩ = some (.int .i64 t5) ∧ X.cell? ⟨g, 6, none⟩ = some (.int .i64 t6))) (by kernel_rfl) (sK _ LG0.out) (fun hHeld => ?_)
    clear hHeld
    refine wpAnyH_take (i := 0) (v := ?_) rfl (by kernel_rfl) (by kernel_rfl) (by kernel_rfl) (fun _ _ _ h => h) (Or.inl ⟨by rfl, ?_⟩) (sK _ LG0.out) ?_
    rotate_left
    · (intro wS hSw; (try dsimp only at hSw); go_simp; try with_reducible rfl)
    simp only [Act.put, List.getElem_toArray, List.getElem_cons_zero, List.getElem_cons_succ, List.setIfInBounds_toArray, List.set_cons_zero, List.set_cons_succ]
    refine wpAnyH_take (i := 1) (v := ?_) rfl (by kernel_rfl) (by kernel_rfl) (by kernel_rfl) (fun _ _ _ h => h) (Or.inl ⟨by rfl, ?_⟩) (sK _ LG0.out) ?_
    rotate_left
    · (intro wS hSw; (try dsimp only at hSw); go_simp; try with_reducible rfl)
    simp only [Act.put, List.getElem_toArray, List.getElem_cons_zero, List.getElem_cons_succ, List.setIfInBounds_toArray, List.set_cons_zero, List.set_cons_succ]
    refine wpAnyH_take (i := 4) (v := ?_) rfl (by kernel_rfl) (by kernel_rfl) (by kernel_rfl) (fun _ _ _ h => h) (Or.inl ⟨by rfl, ?_⟩) (sK _ LG0.out) ?_
    rotate_left
    · (intro wS hSw; (try dsimp only at hSw); go_simp; try with_reducible rfl)
    simp only [Act.put, List.getElem_toArray, List.getElem_cons_zero, List.getElem_cons_succ, List.setIfInBounds_toArray, List.set_cons_zero, List.set_cons_succ]
    refine wpAnyH_take (i := 5) (v := ?_) rfl (by kernel_rfl) (by kernel_rfl) (by kernel_rfl) (fun _ _ _ h => h) (Or.inl ⟨by rfl, ?_⟩) (sK _ LG0.out) ?_
    rotate_left
    · (intro wS hSw; (try dsimp only at hSw); go_simp; try with_reducible rfl)
    simp only [Act.put, List.getElem_toArray, List.getElem_cons_zero, List.getElem_cons_succ, List.setIfInBounds_toArray, List.set_cons_zero, List.set_cons_succ]
    refine wpAnyH_take (i := 9) (v := ?_) rfl (by kernel_rfl) (by kernel_rfl) (by kernel_rfl) (fun _ _ _ h => h) (Or.inl ⟨by rfl, ?_⟩) (sK _ LG0.out) ?_
    rotate_left
    · (intro wS hSw; (try dsimp only at hSw); go_simp; try with_reducible rfl)
    simp only [Act.put, List.getElem_toArray, List.getElem_cons_zero, List.getElem_cons_succ, List.setIfInBounds_toArray, List.set_cons_zero, List.set_cons_succ]
    refine wpAnyH_take (i := 10) (v := ?_) rfl (by kernel_rfl) (by kernel_rfl) (by kernel_rfl) (fun _ _ _ h => h) (Or.inl ⟨by rfl, ?_⟩) (sK _ LG0.out) ?_
    rotate_left
    · (intro wS hSw; (try dsimp only at hSw); go_simp; try with_reducible rfl)
    simp only [Act.put, List.getElem_toArray, List.getElem_cons_zero, List.getElem_cons_succ, List.setIfInBounds_toArray, List.set_cons_zero, List.set_cons_succ]
    refine wpAnyH_take (i := 14) (v := ?_) rfl (by kernel_rfl) (by kernel_rfl) (by kernel_rfl) (fun _ _ _ h => h) (Or.inl ⟨by rfl, ?_⟩) (sK _ LG0.out) ?_
    rotate_left
    · (intro wS hSw; (try dsimp only at hSw); go_simp; try with_reducible rfl)
    simp only [Act.put, List.getElem_toArray, List.getElem_cons_zero, List.getElem_cons_succ, List.setIfInBounds_toArray, List.set_cons_zero, List.set_cons_succ]
    refine wpAnyH_take (i := 15) (v := ?_) rfl (by kernel_rfl) (by kernel_rfl) (by kernel_rfl) (fun _ _ _ h => h) (Or.inl ⟨by rfl, ?_⟩) (sK _ LG0.out) ?_
    rotate_left
    · (intro wS hSw; (try dsimp only at hSw); go_simp; try with_reducible rfl)
    simp only [Act.put, List.getElem_toArray, List.getElem_cons_zero, List.getElem_cons_succ, List.setIfInBounds_toArray, List.set_cons_zero, List.set_cons_succ]
    refine wpAnyH_ready (rs := [2]) (by kernel_rfl) (by simp) ?_
    refine AllReadyH.cons rfl (fun K hK => ?_) AllReadyH.nil
    go_simp
    refine (D0.out _).mono ?_
    rintro e r1 ⟨rfl, hb⟩
    have LG1 := Lib.hid (Blk.next (w := V0.drew) LG0.out hb)
    have E1 := Lib.hid (E0.out.trans (hb.mono E0.out.size))
    clear hb
    go_wp2_with fail
    refine hK.out _ _ (sK _ LG1.out) (fun hHeld => ?_)
    clear hK K hHeld
    try simp only [Act.put, List.getElem_toArray, List.getElem_cons_zero, List.getElem_cons_succ, List.setIfInBounds_toArray, List.set_cons_zero, List.set_cons_succ]
    refine wpAnyH_take (i := 3) (v := ?_) rfl (by kernel_rfl) (by kernel_rfl) (by kernel_rfl) (fun _ _ _ h => h) (Or.inl ⟨by rfl, ?_⟩) (sK _ LG1.out) ?_
    rotate_left
    · (intro wS hSw; (try dsimp only at hSw); go_simp; try with_reducible rfl)
    simp only [Act.put, List.getElem_toArray, List.getElem_cons_zero, List.getElem_cons_succ, List.setIfInBounds_toArray, List.set_cons_zero, List.set_cons_succ]
    refine wpAnyH_ready (rs := [6]) (by kernel_rfl) (by simp) ?_
    refine AllReadyH.cons rfl (fun K hK => ?_) AllReadyH.nil
    go_simp
    refine (D1.out _).mono ?_
    rintro e r2 ⟨rfl, hb⟩
    have LG2 := Lib.hid (Blk.next (w := r1) LG1.out hb)
    have E2 := Lib.hid (E1.out.trans (hb.mono E1.out.size))
    clear hb
    go_wp2_with fail
    refine hK.out _ _ (sK _ LG2.out) (fun hHeld => ?_)
    clear hK K hHeld
    try simp only [Act.put, List.getElem_toArray, List.getElem_cons_zero, List.getElem_cons_succ, List.setIfInBounds_toArray, List.set_cons_zero, List.set_cons_succ]
    refine wpAnyH_take (i := 7) (v := ?_) rfl (by kernel_rfl) (by kernel_rfl) (by kernel_rfl) (fun _ _ _ h => h) (Or.inl ⟨by rfl, ?_⟩) (sK _ LG2.out) ?_
    rotate_left
    · (intro wS hSw; (try dsimp only at hSw); go_simp; try with_reducible rfl)
    simp only [Act.put, List.getElem_toArray, List.getElem_cons_zero, List.getElem_cons_succ, List.setIfInBounds_toArray, List.set_cons_zero, List.set_cons_succ]
    refine wpAnyH_take (i := 8) (v := ?_) rfl (by kernel_rfl) (by kernel_rfl) (by kernel_rfl) (fun _ _ _ h => h) (Or.inl ⟨by rfl, ?_⟩) (sK _ LG2.out) ?_
    rotate_left
    · (intro wS hSw; (try dsimp only at hSw); go_simp; try with_reducible rfl)
    simp only [Act.put, List.getElem_toArray, List.getElem_cons_zero, List.getElem_cons_succ, List.setIfInBounds_toArray, List.set_cons_zero, List.set_cons_succ]
    refine wpAnyH_ready (rs := [11]) (by kernel_rfl) (by simp) ?_
    refine AllReadyH.cons rfl (fun K hK => ?_) AllReadyH.nil
    go_simp
    refine (D2.out _).mono ?_
    rintro e r3 ⟨rfl, hb⟩
    have LG3 := Lib.hid (Blk.next (w := r2) LG2.out hb)
    have E3 := Lib.hid (E2.out.trans (hb.mono E2.out.size))
    clear hb
    go_wp2_with fail
    refine hK.out _ _ (sK _ LG3.out) (fun hHeld => ?_)
    clear hK K hHeld
    try simp only [Act.put, List.getElem_toArray, List.getElem_cons_zero, List.getElem_cons_succ, List.setIfInBounds_toArray, List.set_cons_zero, List.set_cons_succ]
    refine wpAnyH_take (i := 12) (v := ?_) rfl (by kernel_rfl) (by kernel_rfl) (by kernel_rfl) (fun _ _ _ h => h) (Or.inl ⟨by rfl, ?_⟩) (sK _ LG3.out) ?_
    rotate_left
    · (intro wS hSw; (try dsimp only at hSw); go_simp; try with_reducible rfl)
    simp only [Act.put, List.getElem_toArray, List.getElem_cons_zero, List.getElem_cons_succ, List.setIfInBounds_toArray, List.set_cons_zero, List.set_cons_succ]
    refine wpAnyH_take (i := 13) (v := ?_) rfl (by kernel_rfl) (by kernel_rfl) (by kernel_rfl) (fun _ _ _ h => h) (Or.inl ⟨by rfl, ?_⟩) (sK _ LG3.out) ?_
    rotate_left
    · (intro wS hSw; (try dsimp only at hSw); go_simp; try with_reducible rfl)
    simp only [Act.put, List.getElem_toArray, List.getElem_cons_zero, List.getElem_cons_succ, List.setIfInBounds_toArray, List.set_cons_zero, List.set_cons_succ]
    refine wpAnyH_ready (rs := [16]) (by kernel_rfl) (by simp) ?_
    refine AllReadyH.cons rfl (fun K hK => ?_) AllReadyH.nil
    go_simp
    refine (D3.out _).mono ?_
    rintro e r4 ⟨rfl, hb⟩
    have LG4 := Lib.hid (Blk.next (w := r3) LG3.out hb)
    have E4 := Lib.hid (E3.out.trans (hb.mono E3.out.size))
    clear hb
    go_wp2_with fail
    refine hK.out _ _ (sK _ LG4.out) (fun hHeld => ?_)
    clear hK K hHeld
    try simp only [Act.put, List.getElem_toArray, List.getElem_cons_zero, List.getElem_cons_succ, List.setIfInBounds_toArray, List.set_cons_zero, List.set_cons_succ]
    refine wpAnyH_take (i := 17) (v := ?_) rfl (by kernel_rfl) (by kernel_rfl) (by kernel_rfl) (fun _ _ _ h => h) (Or.inl ⟨by rfl, ?_⟩) (sK _ LG4.out) ?_
    rotate_left
    · (intro wS hSw; (try dsimp only at hSw); go_simp; try with_reducible rfl)
    simp only [Act.put, List.getElem_toArray, List.getElem_cons_zero, List.getElem_cons_succ, List.setIfInBounds_toArray, List.set_cons_zero, List.set_cons_succ]
    refine wpAnyH_take (i := 18) (v := ?_) rfl (by kernel_rfl) (by kernel_rfl) (by kernel_rfl) (fun _ _ _ h => h) (Or.inl ⟨by rfl, ?_⟩) (sK _ LG4.out) ?_
    rotate_left
    · (intro wS hSw; (try dsimp only at hSw); go_simp; try with_reducible rfl)
    simp only [Act.put, List.getElem_toArray, List.getElem_cons_zero, List.getElem_cons_succ, List.setIfInBounds_toArray, List.set_cons_zero, List.set_cons_succ]
    refine wpAnyH_done (by kernel_rfl) ?_ _
    have HG := LG4
    have EE := E4
    have kG0 : r4.cell? ⟨g, 0, none⟩ = some (.int .i64 t0) := HG.out.cell 0
    have kG1 : r4.cell? ⟨g, 1, none⟩ = some (.int .i64 t1) := HG.out.cell 1
    have kG2 : r4.cell? ⟨g, 2, none⟩ = some (.int .i64 t2) := HG.out.cell 2
    have kG3 : r4.cell? ⟨g, 3, none⟩ = some (.int .i64 t3) := HG.out.cell 3
    have kG4 : r4.cell? ⟨g, 4, none⟩ = some (.int .i64 t4) := HG.out.cell 4
    have kG5 : r4.cell? ⟨g, 5, none⟩ = some (.int .i64 t5) := HG.out.cell 5
    have kG6 : r4.cell? ⟨g, 6, none⟩ = some (.int .i64 t6) := HG.out.cell 6
    clear y0 y1 y2 y3 y4 y5
    obtain ⟨V1, rfl⟩ : ∃ V, V = r4 := ⟨_, rfl⟩
    clear kG0 kG1 kG2 kG3 kG4 kG5 kG6
    have kG0 : V1.cell? ⟨g, 0, none⟩ = some (.int .i64 t0) := HG.out.cell 0
    have kG1 : V1.cell? ⟨g, 1, none⟩ = some (.int .i64 t1) := HG.out.cell 1
    have kG2 : V1.cell? ⟨g, 2, none⟩ = some (.int .i64 t2) := HG.out.cell 2
    have kG3 : V1.cell? ⟨g, 3, none⟩ = some (.int .i64 t3) := HG.out.cell 3
    have kG4 : V1.cell? ⟨g, 4, none⟩ = some (.int .i64 t4) := HG.out.cell 4
    have kG5 : V1.cell? ⟨g, 5, none⟩ = some (.int .i64 t5) := HG.out.cell 5
    have kG6 : V1.cell? ⟨g, 6, none⟩ = some (.int .i64 t6) := HG.out.cell 6
    have y0 : ¬ 9223372036854775807 < 8 + I5.length := by omega
    have y1 : ¬ 9223372036854775807 < 8 + I5.length + 8 := by omega
    have y2 : ¬ 9223372036854775807 < 8 + I5.length + 8 + I4.length := by omega
    have y3 : ¬ 9223372036854775807 ≤ 8 + I5.length := by omega
    go_wp2_with fail
    have sK : ∀ X, Blk X (g) 30 #[.int .i64 t0, .int .i64 t1, .int .i64 t2, .int .i64 t3, .int .i64 t4, .int .i64 t5, .int .i64 t6] → (fun X => X.cell? ⟨g, 0, none⟩ = some (.int .i64 t0) ∧ X.cell? ⟨g, 1, none⟩ = some (.int .i64 t1) ∧ X.cell? ⟨g, 2, none⟩ = some (.int .i64 t2) ∧ X.cell? ⟨g, 3, none⟩ = some (.int .i64 t3) ∧ X.cell? ⟨g, 4, none⟩ = some (.int .i64 t4) ∧ X.cell? ⟨g, 5, none⟩ = some (.int .i64 t5) ∧ X.cell? ⟨g, 6, none⟩ = some (.int .i64 t6)) X := fun X hG => ⟨hG.cell 0, hG.cell 1, hG.cell 2, hG.cell 3, hG.cell 4, hG.cell 5, hG.cell 6⟩
    have LG0 := Lib.hid (HG.out.drew)
    have E0 := Lib.hid (EE.out.drew)
    clear kG0 kG1 kG2 kG3 kG4 kG5 kG6
    refine wp_region_held_drew (S := (fun X => X.cell? ⟨g, 0, none⟩ = some (.int .i64 t0) ∧ X.cell? ⟨g, 1, none⟩ = some (.int .i64 t1) ∧ X.cell? ⟨g, 2, none⟩ = some (.int .i64 t2) ∧ X.cell? ⟨g, 3, none⟩ = some (.int .i64 t3) ∧ X.cell? ⟨g, 4, none⟩ = some (.int .i64 t4) ∧ X.cell? ⟨g, 5, none⟩ = some (.int .i64 t5) ∧ X.cell? ⟨g, 6, none⟩ = some (.int .i64 t6))) (by kernel_rfl) (sK _ LG0.out) (fun hHeld => ?_)
    clear hHeld
    refine wpAnyH_take (i := 0) (v := ?_) rfl (by kernel_rfl) (by kernel_rfl) (by kernel_rfl) (fun _ _ _ h => h) (Or.inl ⟨by rfl, ?_⟩) (sK _ LG0.out) ?_
    rotate_left
    · (intro wS hSw; (try dsimp only at hSw); go_simp; try with_reducible rfl)
    simp only [Act.put, List.getElem_toArray, List.getElem_cons_zero, List.getElem_cons_succ, List.setIfInBounds_toArray, List.set_cons_zero, List.set_cons_succ]
    refine wpAnyH_take (i := 1) (v := ?_) rfl (by kernel_rfl) (by kernel_rfl) (by kernel_rfl) (fun _ _ _ h => h) (Or.inl ⟨by rfl, ?_⟩) (sK _ LG0.out) ?_
    rotate_left
    · (intro wS hSw; (try dsimp only at hSw); go_simp; try with_reducible rfl)
    simp only [Act.put, List.getElem_toArray, List.getElem_cons_zero, List.getElem_cons_succ, List.setIfInBounds_toArray, List.set_cons_zero, List.set_cons_succ]
    refine wpAnyH_take (i := 5) (v := ?_) rfl (by kernel_rfl) (by kernel_rfl) (by kernel_rfl) (fun _ _ _ h => h) (Or.inl ⟨by rfl, ?_⟩) (sK _ LG0.out) ?_
    rotate_left
    · (intro wS hSw; (try dsimp only at hSw); go_simp; try with_reducible rfl)
    simp only [Act.put, List.getElem_toArray, List.getElem_cons_zero, List.getElem_cons_succ, List.setIfInBounds_toArray, List.set_cons_zero, List.set_cons_succ]
    refine wpAnyH_take (i := 6) (v := ?_) rfl (by kernel_rfl) (by kernel_rfl) (by kernel_rfl) (fun _ _ _ h => h) (Or.inl ⟨by rfl, ?_⟩) (sK _ LG0.out) ?_
    rotate_left
    · (intro wS hSw; (try dsimp only at hSw); go_simp; try with_reducible rfl)
    simp only [Act.put, List.getElem_toArray, List.getElem_cons_zero, List.getElem_cons_succ, List.setIfInBounds_toArray, List.set_cons_zero, List.set_cons_succ]
    refine wpAnyH_ready (rs := [2]) (by kernel_rfl) (by simp) ?_
    refine AllReadyH.cons rfl (fun K hK => ?_) AllReadyH.nil
    go_simp
    refine (D5.out _).mono ?_
    rintro e r1 ⟨rfl, hb⟩
    have LG1 := Lib.hid (Blk.next (w := V1.drew) LG0.out hb)
    have E1 := Lib.hid (E0.out.trans (hb.mono E0.out.size))
    clear hb
    go_wp2_with fail
    refine hK.out _ _ (sK _ LG1.out) (fun hHeld => ?_)
    clear hK K hHeld
    try simp only [Act.put, List.getElem_toArray, List.getElem_cons_zero, List.getElem_cons_succ, List.setIfInBounds_toArray, List.set_cons_zero, List.set_cons_succ]
    refine wpAnyH_take (i := 3) (v := ?_) rfl (by kernel_rfl) (by kernel_rfl) (by kernel_rfl) (fun _ _ _ h => h) (Or.inl ⟨by rfl, ?_⟩) (sK _ LG1.out) ?_
    rotate_left
    · (intro wS hSw; (try dsimp only at hSw); go_simp; try with_reducible rfl)
    simp only [Act.put, List.getElem_toArray, List.getElem_cons_zero, List.getElem_cons_succ, List.setIfInBounds_toArray, List.set_cons_zero, List.set_cons_succ]
    refine wpAnyH_take (i := 4) (v := ?_) rfl (by kernel_rfl) (by kernel_rfl) (by kernel_rfl) (fun _ _ _ h => h) (Or.inl ⟨by rfl, ?_⟩) (sK _ LG1.out) ?_
    rotate_left
    · (intro wS hSw; (try dsimp only at hSw); go_simp; try with_reducible rfl)
    simp only [Act.put, List.getElem_toArray, List.getElem_cons_zero, List.getElem_cons_succ, List.setIfInBounds_toArray, List.set_cons_zero, List.set_cons_succ]
    refine wpAnyH_ready (rs := [7]) (by kernel_rfl) (by simp) ?_
    refine AllReadyH.cons rfl (fun K hK => ?_) AllReadyH.nil
    go_simp
    refine (D4.out _).mono ?_
    rintro e r2 ⟨rfl, hb⟩
    have LG2 := Lib.hid (Blk.next (w := r1) LG1.out hb)
    have E2 := Lib.hid (E1.out.trans (hb.mono E1.out.size))
    clear hb
    go_wp2_with fail
    refine hK.out _ _ (sK _ LG2.out) (fun hHeld => ?_)
    clear hK K hHeld
    try simp only [Act.put, List.getElem_toArray, List.getElem_cons_zero, List.getElem_cons_succ, List.setIfInBounds_toArray, List.set_cons_zero, List.set_cons_succ]
    refine wpAnyH_take (i := 8) (v := ?_) rfl (by kernel_rfl) (by kernel_rfl) (by kernel_rfl) (fun _ _ _ h => h) (Or.inl ⟨by rfl, ?_⟩) (sK _ LG2.out) ?_
    rotate_left
    · (intro wS hSw; (try dsimp only at hSw); go_simp; try with_reducible rfl)
    simp only [Act.put, List.getElem_toArray, List.getElem_cons_zero, List.getElem_cons_succ, List.setIfInBounds_toArray, List.set_cons_zero, List.set_cons_succ]
    refine wpAnyH_take (i := 9) (v := ?_) rfl (by kernel_rfl) (by kernel_rfl) (by kernel_rfl) (fun _ _ _ h => h) (Or.inl ⟨by rfl, ?_⟩) (sK _ LG2.out) ?_
    rotate_left
    · (intro wS hSw; (try dsimp only at hSw); go_simp; try with_reducible rfl)
    simp only [Act.put, List.getElem_toArray, List.getElem_cons_zero, List.getElem_cons_succ, List.setIfInBounds_toArray, List.set_cons_zero, List.set_cons_succ]
    refine wpAnyH_done (by kernel_rfl) ?_ _
    have HG := LG2
    have EE := E2
    have kG0 : r2.cell? ⟨g, 0, none⟩ = some (.int .i64 t0) := HG.out.cell 0
    have kG1 : r2.cell? ⟨g, 1, none⟩ = some (.int .i64 t1) := HG.out.cell 1
    have kG2 : r2.cell? ⟨g, 2, none⟩ = some (.int .i64 t2) := HG.out.cell 2
    have kG3 : r2.cell? ⟨g, 3, none⟩ = some (.int .i64 t3) := HG.out.cell 3
    have kG4 : r2.cell? ⟨g, 4, none⟩ = some (.int .i64 t4) := HG.out.cell 4
    have kG5 : r2.cell? ⟨g, 5, none⟩ = some (.int .i64 t5) := HG.out.cell 5
    have kG6 : r2.cell? ⟨g, 6, none⟩ = some (.int .i64 t6) := HG.out.cell 6
    clear y0 y1 y2 y3
    obtain ⟨V2, rfl⟩ : ∃ V, V = r2 := ⟨_, rfl⟩
    clear kG0 kG1 kG2 kG3 kG4 kG5 kG6
    have kG0 : V2.cell? ⟨g, 0, none⟩ = some (.int .i64 t0) := HG.out.cell 0
    have kG1 : V2.cell? ⟨g, 1, none⟩ = some (.int .i64 t1) := HG.out.cell 1
    have kG2 : V2.cell? ⟨g, 2, none⟩ = some (.int .i64 t2) := HG.out.cell 2
    have kG3 : V2.cell? ⟨g, 3, none⟩ = some (.int .i64 t3) := HG.out.cell 3
    have kG4 : V2.cell? ⟨g, 4, none⟩ = some (.int .i64 t4) := HG.out.cell 4
    have kG5 : V2.cell? ⟨g, 5, none⟩ = some (.int .i64 t5) := HG.out.cell 5
    have kG6 : V2.cell? ⟨g, 6, none⟩ = some (.int .i64 t6) := HG.out.cell 6
    by_cases h6 : 0 ≤ t6
    · have y0 : ¬ 9223372036854775807 < 8 + I5.length + 8 + I4.length + 9 := by omega
      have y1 : ¬ 9223372036854775807 < 8 + I5.length + 8 + I4.length + 9 + I6.length := by omega
      have y2 : ¬ 9223372036854775807 < I0.length + 9 + I1.length + 6 + I2.length + 4 + I3.length + (8 + I5.length + 8 + I4.length + 9 + I6.length) := by omega
      have hW : (ByteArray.mk I0.toArray ++ ByteArray.mk #[32, 99, 97, 109, 101, 32, 97, 116, 32] ++ ByteArray.mk I1.toArray ++ ByteArray.mk #[32, 102, 114, 111, 109, 32] ++ ByteArray.mk I2.toArray ++ ByteArray.mk #[32, 116, 111, 32] ++ ByteArray.mk I3.toArray) ++ ((ByteArray.mk #[44, 32, 105, 110, 32, 97, 116, 32] ++ ByteArray.mk I5.toArray ++ ByteArray.mk #[32, 98, 121, 32, 99, 97, 114, 32] ++ ByteArray.mk I4.toArray) ++ ByteArray.mk #[44, 32, 111, 117, 116, 32, 97, 116, 32] ++ ByteArray.mk I6.toArray) = ByteArray.mk SL.toArray := by rw [HSL.out, if_pos h6]; simp [ByteArray.mk_append_mk, List.append_assoc]
      have hE : ((ByteArray.mk SL.toArray).toList == ((ByteArray.mk I0.toArray ++ ByteArray.mk #[32, 99, 97, 109, 101, 32, 97, 116, 32] ++ ByteArray.mk I1.toArray ++ ByteArray.mk #[32, 102, 114, 111, 109, 32] ++ ByteArray.mk I2.toArray ++ ByteArray.mk #[32, 116, 111, 32] ++ ByteArray.mk I3.toArray) ++ ((ByteArray.mk #[44, 32, 105, 110, 32, 97, 116, 32] ++ ByteArray.mk I5.toArray ++ ByteArray.mk #[32, 98, 121, 32, 99, 97, 114, 32] ++ ByteArray.mk I4.toArray) ++ ByteArray.mk #[44, 32, 111, 117, 116, 32, 97, 116, 32] ++ ByteArray.mk I6.toArray)).toList) = true := by rw [hW]; simp
      go_wp2_with fail
      refine (D6.out _).mono ?_
      rintro e v1 ⟨rfl, hb⟩
      clear kG0 kG1 kG2 kG3 kG4 kG5 kG6
      have HG := Lib.hid (Blk.next (w := V2) HG.out hb)
      have EE := Lib.hid (EE.out.trans (hb.mono EE.out.size))
      clear hb
      have kG0 : v1.cell? ⟨g, 0, none⟩ = some (.int .i64 t0) := HG.out.cell 0
      have kG1 : v1.cell? ⟨g, 1, none⟩ = some (.int .i64 t1) := HG.out.cell 1
      have kG2 : v1.cell? ⟨g, 2, none⟩ = some (.int .i64 t2) := HG.out.cell 2
      have kG3 : v1.cell? ⟨g, 3, none⟩ = some (.int .i64 t3) := HG.out.cell 3
      have kG4 : v1.cell? ⟨g, 4, none⟩ = some (.int .i64 t4) := HG.out.cell 4
      have kG5 : v1.cell? ⟨g, 5, none⟩ = some (.int .i64 t5) := HG.out.cell 5
      have kG6 : v1.cell? ⟨g, 6, none⟩ = some (.int .i64 t6) := HG.out.cell 6
      clear kG0 kG1 kG2 kG3 kG4 kG5 kG6
      go_wp2_with fail
      refine (KL.out _ EE.out).mono ?_
      rintro e w9 ⟨rfl, hb⟩
      replace EE := Lib.hid (EE.out.trans (hb.mono EE.out.size))
      clear hb
      go_wp2_with fail
      go_ret
      exact ⟨rfl, EE.out⟩
    · by_cases h5 : 0 ≤ t5
      · have y0 : ¬ 9223372036854775807 < 8 + I5.length + 8 + I4.length + 7 := by omega
        have y1 : ¬ 9223372036854775807 < I0.length + 9 + I1.length + 6 + I2.length + 4 + I3.length + (8 + I5.length + 8 + I4.length + 7) := by omega
        have hW : (ByteArray.mk I0.toArray ++ ByteArray.mk #[32, 99, 97, 109, 101, 32, 97, 116, 32] ++ ByteArray.mk I1.toArray ++ ByteArray.mk #[32, 102, 114, 111, 109, 32] ++ ByteArray.mk I2.toArray ++ ByteArray.mk #[32, 116, 111, 32] ++ ByteArray.mk I3.toArray) ++ ((ByteArray.mk #[44, 32, 105, 110, 32, 97, 116, 32] ++ ByteArray.mk I5.toArray ++ ByteArray.mk #[32, 98, 121, 32, 99, 97, 114, 32] ++ ByteArray.mk I4.toArray) ++ ByteArray.mk #[44, 32, 114, 105, 100, 101, 115]) = ByteArray.mk SL.toArray := by rw [HSL.out, if_neg h6, if_pos h5]; simp [ByteArray.mk_append_mk, List.append_assoc]
        have hE : ((ByteArray.mk SL.toArray).toList == ((ByteArray.mk I0.toArray ++ ByteArray.mk #[32, 99, 97, 109, 101, 32, 97, 116, 32] ++ ByteArray.mk I1.toArray ++ ByteArray.mk #[32, 102, 114, 111, 109, 32] ++ ByteArray.mk I2.toArray ++ ByteArray.mk #[32, 116, 111, 32] ++ ByteArray.mk I3.toArray) ++ ((ByteArray.mk #[44, 32, 105, 110, 32, 97, 116, 32] ++ ByteArray.mk I5.toArray ++ ByteArray.mk #[32, 98, 121, 32, 99, 97, 114, 32] ++ ByteArray.mk I4.toArray) ++ ByteArray.mk #[44, 32, 114, 105, 100, 101, 115])).toList) = true := by rw [hW]; simp
        go_wp2_with fail
        refine (KL.out _ EE.out).mono ?_
        rintro e w9 ⟨rfl, hb⟩
        replace EE := Lib.hid (EE.out.trans (hb.mono EE.out.size))
        clear hb
        go_wp2_with fail
        go_ret
        exact ⟨rfl, EE.out⟩
      · have y0 : ¬ 9223372036854775807 < I0.length + 9 + I1.length + 6 + I2.length + 4 + I3.length + 7 := by omega
        have hW : (ByteArray.mk I0.toArray ++ ByteArray.mk #[32, 99, 97, 109, 101, 32, 97, 116, 32] ++ ByteArray.mk I1.toArray ++ ByteArray.mk #[32, 102, 114, 111, 109, 32] ++ ByteArray.mk I2.toArray ++ ByteArray.mk #[32, 116, 111, 32] ++ ByteArray.mk I3.toArray) ++ ByteArray.mk #[44, 32, 119, 97, 105, 116, 115] = ByteArray.mk SL.toArray := by rw [HSL.out, if_neg h6, if_neg h5]; simp [ByteArray.mk_append_mk, List.append_assoc]
        have hE : ((ByteArray.mk SL.toArray).toList == ((ByteArray.mk I0.toArray ++ ByteArray.mk #[32, 99, 97, 109, 101, 32, 97, 116, 32] ++ ByteArray.mk I1.toArray ++ ByteArray.mk #[32, 102, 114, 111, 109, 32] ++ ByteArray.mk I2.toArray ++ ByteArray.mk #[32, 116, 111, 32] ++ ByteArray.mk I3.toArray) ++ ByteArray.mk #[44, 32, 119, 97, 105, 116, 115]).toList) = true := by rw [hW]; simp
        go_wp2_with fail
        refine (KL.out _ EE.out).mono ?_
        rintro e w9 ⟨rfl, hb⟩
        replace EE := Lib.hid (EE.out.trans (hb.mono EE.out.size))
        clear hb
        go_wp2_with fail
        go_ret
        exact ⟨rfl, EE.out⟩

end Go.Proofs.YtobeppajomhfjacDoor.replayStories
