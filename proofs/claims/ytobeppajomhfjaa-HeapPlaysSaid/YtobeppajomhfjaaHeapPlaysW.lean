/- The walk of HeapPlays: it answers true for every input, and leaves all old blocks as they were. No condition. -/
import Derived.Test.YtobeppajomhfjaaRows
import Derived.Test.YtobeppajomhfjaaRowKit
import Derived.Test.YtobeppajomhfjaaRowS
import Derived.Test.YtobeppajomhfjaaRowZ
import Derived.Test.YtobeppajomhfjaaRowN
import Derived.Test.YtobeppajomhfjaaRowQ
import Derived.Test.YtobeppajomhfjaaSlicesEq
import Derived.Test.YtobeppajomhfjaaSlicesEqM
import Derived.Test.YtobeppajomhfjaaRowL
import Derived.Test.YtobeppajomhfjaaRowM
import Derived.Test.YtobeppajomhfjaaMakeI
import Derived.Test.YtobeppajomhfjaaBlocks
import Derived.Test.YtobeppajomhfjaaAtKit
import Derived.Test.YtobeppajomhfjaaHeapX
import Derived.WalkKit
import Derived.ProofKit
import Derived.OpenShut
import Derived.Deep.QuietTactic
import Derived.BigQuiet
import Derived.Lib.SmallJoins
import Derived.Lib.Hide
import Derived.WalkSpells
import Derived.WalkLawsBesides
import Derived.OwnWalk
import Derived.BigRegion
import Derived.Deep.LoopGhost
import Derived.Deep.RegionHeld3
import Derived.IntWalk
namespace Go.Proofs.Ytobeppajomhfjaa.heapPlays
open Go.ChangeShapes Go.WideShapes Go.ChangeAt Go.RowKit Go.Joins
set_option linter.unusedSimpArgs false
set_option linter.unusedVariables false

theorem icEnt : IntCells Try.prog 24 3 := intCells_struct Try.underlying24 (fun j hj => by
  have h3 : j = 0 ∨ j = 1 ∨ j = 2 := by omega
  rcases h3 with h | h | h
  · exact ⟨0, 0, 1, 3, by kernel_rfl, by kernel_rfl, intCells_int Try.underlying3, by omega, by omega, by omega⟩
  · exact ⟨1, 1, 1, 3, by kernel_rfl, by kernel_rfl, intCells_int Try.underlying3, by omega, by omega, by omega⟩
  · exact ⟨2, 2, 1, 3, by kernel_rfl, by kernel_rfl, intCells_int Try.underlying3, by omega, by omega, by omega⟩)
theorem icOp : IntCells Try.prog 35 4 := intCells_struct Try.underlying35 (fun j hj => by
  rcases Nat.eq_zero_or_pos j with h | h
  · exact ⟨0, 0, 1, 3, by kernel_rfl, by kernel_rfl, intCells_int Try.underlying3, by omega, by omega, by omega⟩
  · exact ⟨1, 1, 3, 24, by kernel_rfl, by kernel_rfl, icEnt, by omega, by omega, by omega⟩)
theorem step_any {B g : Nat} {v lv : Value} {X M : List Ent} {kind t d f : Int} {w : World} (hst : StP B w g v X lv M) (hl : M.length ≤ 500) (h0 : 0 ≤ kind) (hx : WfE (t, d, f)) (hkw : (Lit.int .i64 kind).wf = true) :
    Calls Try.prog 13 #[.pointer (some ⟨g, 0, none⟩), lv, .agg #[.int .i64 kind, .int .i64 t, .int .i64 d, .int .i64 f]] w (StepR B g v M w) := by
  have hm : kind % 6 = 0 ∨ kind % 6 = 1 ∨ kind % 6 = 2 ∨ kind % 6 = 3 ∨ kind % 6 = 4 ∨ kind % 6 = 5 := by omega
  rcases hm with h | h | h | h | h | h
  · exact step_push0 hst hl h0 h rfl hx hkw
  · exact step_push1 hst hl h0 h rfl hx hkw
  · exact step_push2 hst hl h0 h rfl hx hkw
  · rcases Nat.eq_zero_or_pos M.length with e | e
    · exact step_popn3 hst hl h0 h rfl (List.length_eq_zero_iff.1 e) hx hkw
    · exact step_pops3 hst hl h0 h rfl e hx hkw
  · rcases Nat.eq_zero_or_pos M.length with e | e
    · exact step_popn4 hst hl h0 h rfl (List.length_eq_zero_iff.1 e) hx hkw
    · exact step_pops4 hst hl h0 h rfl e hx hkw
  · exact step_until hst hl h0 h rfl hx hkw
theorem hp_below2 {B g : Nat} {w0 w w' : World} {v : Value} {L : List Ent} (h : HpA B w g v L) (hf : Fr (hpS g v) w w') (h0 : Below B w0 w) (hB : B ≤ w.heap.size) : Below B w0 w' := hp_below h hf h0 hB
theorem isE_arg {w : World} {A : Option Addr} {c k : Nat} {z : Nat → Nat → Int} (ra : RdZ w 3 A k z) (a1 : k ≤ c) (a2 : c ≤ maxLen) (a3 : A = none → c = 0) : IsE w (.slice A k c) ((List.range k).map fun i => (z i 0, z i 1, z i 2)) := by
  have hl : ((List.range k).map fun i => (z i 0, z i 1, z i 2)).length = k := by simp
  refine ⟨A, c, by rw [hl], ?_, by rw [hl]; exact a1, a2, a3⟩
  rw [hl]
  intro i hi
  obtain ⟨a, e, hlt, hc⟩ := ra i hi
  refine ⟨a, e, hlt, fun j hj => ?_⟩
  have e2 : zE ((List.range k).map fun i => (z i 0, z i 1, z i 2)) i j = z i j := by
    have h3 : j = 0 ∨ j = 1 ∨ j = 2 := by omega
    unfold zE
    rw [List.getD_eq_getElem?_getD, List.getElem?_map, List.getElem?_range hi]
    rcases h3 with rfl | rfl | rfl <;> rfl
  rw [e2]; exact hc j hj
theorem rd_wf {w : World} {m n : Nat} {A : Option Addr} {z : Nat → Nat → Int} (h : RdZ w m A n z) {i j : Nat} (hi : i < n) (hj : j < m) : (Lit.int .i64 (z i j)).wf = true := by
  obtain ⟨_, _, _, hc⟩ := h i hi
  exact (hc j hj).2
set_option maxRecDepth 100000 in
set_option maxHeartbeats 40000000 in
theorem walk {A A2 : Option Addr} {c k c2 k2 : Nat} {z z2 : Nat → Nat → Int} {w : World} (a1 : k ≤ c) (a2 : c ≤ maxLen) (ra : RdZ w 3 A k z) (a3 : A = none → c = 0) (b1 : k2 ≤ c2) (b2 : c2 ≤ maxLen) (rb : RdZ w 4 A2 k2 z2) (b3 : A2 = none → c2 = 0) :
    Calls Try.prog 4 #[.slice A k c, .slice A2 k2 c2] w fun e w' => e = .returned (.bool true) ∧ Below w.heap.size w w' := by
  have ha := isE_arg ra a1 a2 a3
  obtain ⟨L, hL⟩ : ∃ X, ((List.range k).map fun i => (z i 0, z i 1, z i 2)) = X := ⟨_, rfl⟩
  have hLl : L.length = k := by rw [← hL]; simp
  rw [hL] at ha
  have HL := Lib.hid ha; have HLL := Lib.hid hLl
  have HRB := Lib.hid rb
  have hM : maxLen ≤ 9223372036854775807 := by decide
  clear ra hL ha rb a3 b3 hLl
  by_cases g1 : 50 < k
  · have g1' : (50 : Int) < (k : Int) := by omega
    go_enter Try.func4, Try.ntmps4
    go_wp2_with fail
    go_ret
    exact ⟨rfl, Below.refl _ _⟩
  have g1' : ¬ (50 : Int) < (k : Int) := by omega
  by_cases g2 : 80 < k2
  · have g2' : (80 : Int) < (k2 : Int) := by omega
    go_enter Try.func4, Try.ntmps4
    go_wp2_with fail
    go_ret
    exact ⟨rfl, Below.refl _ _⟩
  have g2' : ¬ (80 : Int) < (k2 : Int) := by omega
  have K1 := Lib.hid (make_any _ L w HL.out (by have := HLL.out; omega))
  go_enter Try.func4, Try.ntmps4
  go_wp2_with fail
  refine K1.out.mono ?_
  rintro e w1 ⟨g, v0, X0, rfl, hp, ho, hh, hb⟩
  have P1 := Lib.hid hp; have H1 := Lib.hid hh; have E1 := Lib.hid hb
  have K2 := Lib.hid (dsorted_any _ L w1 (HL.out.kept hb) (by have := HLL.out; omega))
  clear hp ho hh hb K1
  go_wp2_with fail
  refine K2.out.mono ?_
  rintro e w2 ⟨lv0, M0, rfl, hp, ho, hi, hb, hnw⟩
  have S2 : Hid (StP w.heap.size w2 g v0 X0 lv0 M0) := Lib.hid ⟨H1.out.fr (S := fun _ => False) ((Fr.refl _ w1).below hb) (fun q => q) (fun _ _ q => q), hp.trans P1.out.symm, ho, hi, fun a n c e => ⟨fun q => by have := hnw a n c e; have := H1.out.1.lt; omega, fun q => by have := hnw a n c e; have := (H1.out.2.2.2.1.lt _ q).2; omega⟩⟩
  have E2 := Lib.hid (E1.out.trans (hb.mono E1.out.size))
  have hM0 : M0.length ≤ 50 := by rw [hp.length_eq, HLL.out]; omega
  have HM0 := Lib.hid hM0
  clear hp ho hi hb hnw K2 hM0
  go_wp2_with fail
  go_loopw [6, 7] (fun lv i wr => ∃ (j : Nat) (l v : Value) (X M : List Ent), l = lv ∧ i = .int .i64 j ∧ j ≤ k2 ∧ Hid (StP w.heap.size wr g v X l M) ∧ Hid (M.length ≤ 50 + j) ∧ Hid (Below w.heap.size w wr)) (fun _ i _ => k2 - (intOf i).toNat)
  case atStart => exact ⟨0, lv0, v0, X0, M0, rfl, rfl, Nat.zero_le _, S2, Lib.hid (by have := HM0.out; omega), E2⟩
  case round =>
    clear S2 HM0 E2 E1 H1 P1
    obtain ⟨j, l, v, X, M, hlv, rfl, hj, SS, HML, EE⟩ := hrel
    subst hlv
    by_cases hjk : j < k2
    case neg =>
      go_wp2_with fail
      refine (alive06 wr).mono ?_
      rintro e w9 ⟨rfl, hb⟩
      have E9 := Lib.hid (EE.out.trans (hb.mono EE.out.size))
      clear hb
      go_wp2_with fail
      go_ret
      exact ⟨rfl, E9.out⟩
    have hjki : (j : Int) < (k2 : Int) := by omega
    obtain ⟨b, o, rfl, hlt, hcell⟩ := rdZ_row HRB.out (by omega) (by omega)
    have c0 : w.cell? ⟨b, o + j * 4, none⟩ = _ := hcell j 0 hjk (by omega)
    have c1 := hcell j 1 hjk (by omega)
    have c2 := hcell j 2 hjk (by omega)
    have c3 := hcell j 3 hjk (by omega)
    have hwf := fun q (hq : q < 4) => (rd_wf HRB.out hjk hq)
    obtain ⟨kind, h0⟩ : ∃ x, z2 j 0 = x := ⟨_, rfl⟩
    obtain ⟨t, h1⟩ : ∃ x, z2 j 1 = x := ⟨_, rfl⟩
    obtain ⟨d, h2⟩ : ∃ x, z2 j 2 = x := ⟨_, rfl⟩
    obtain ⟨f, h3⟩ : ∃ x, z2 j 3 = x := ⟨_, rfl⟩
    have f0 := hwf 0 (by omega)
    have f1 := hwf 1 (by omega)
    have f2 := hwf 2 (by omega)
    have f3 := hwf 3 (by omega)
    rw [h0] at c0 f0
    rw [h1] at c1 f1
    rw [h2] at c2 f2
    rw [h3] at c3 f3
    have k0 := (EE.out.cell (p := ⟨b, o + j * 4, none⟩) (lt_of_cell c0)).trans c0
    have k1 := (EE.out.cell (p := ⟨b, o + j * 4 + 1, none⟩) (lt_of_cell c1)).trans c1
    have k2' := (EE.out.cell (p := ⟨b, o + j * 4 + 2, none⟩) (lt_of_cell c2)).trans c2
    have k3 := (EE.out.cell (p := ⟨b, o + j * 4 + 3, none⟩) (lt_of_cell c3)).trans c3
    clear c0 c1 c2 c3 hwf h0 h1 h2 h3 hcell
    by_cases hkd : kind < 0
    · have hkd' : decide (kind < 0) = true := decide_eq_true hkd
      clear f0 f1 f2 f3
      go_wp2_with fail
      go_ret
      exact ⟨rfl, EE.out⟩
    have KS := Lib.hid (step_any SS.out (by have := HML.out; omega) (by omega) ⟨f1, f2, f3⟩ f0)
    clear f0 f1 f2 f3
    go_wp2_with fail
    refine KS.out.mono ?_
    rintro e w3 ⟨l3, v3, X3, M3, rfl, hs3, hf3, hn3, hl3⟩
    have E3 := Lib.hid (hp_below SS.out.1 hf3 EE.out EE.out.size)
    have HML3 : Hid (M3.length ≤ 50 + (j + 1)) := Lib.hid (by have := HML.out; omega)
    obtain ⟨A3, c3, e3, hr3, hc31, hc32, hc33⟩ := hs3.2.2.2.1
    subst e3
    have hX3 := hs3.2.1.length_eq
    have KL := Lib.hid (len_any hs3.1)
    have KP := Lib.hid (peek_any hs3.1 (by have := HML3.out; omega))
    rw [heap_of hs3.1 hs3.2.1 hs3.2.2.1, ← hX3] at KP
    rw [← hX3] at KL
    have S3 := Lib.hid hs3
    have e0 : eE M3 0 = (zE M3 0 0, zE M3 0 1, zE M3 0 2) := rfl
    obtain ⟨p, hp0⟩ : ∃ x, zE M3 0 0 = x := ⟨_, rfl⟩
    obtain ⟨q, hq0⟩ : ∃ x, zE M3 0 1 = x := ⟨_, rfl⟩
    obtain ⟨s, hs0⟩ : ∃ x, zE M3 0 2 = x := ⟨_, rfl⟩
    rw [hp0, hq0, hs0] at e0
    have HC := Lib.hid e0
    rw [e0] at KP
    unfold aE at KP
    dsimp only at KP
    obtain ⟨n, hn⟩ : ∃ n, M3.length = n := ⟨_, rfl⟩
    rw [hn] at KP KL S3 hc31 ⊢
    have HN := Lib.hid hn
    have hnn : ((n : Int) != (n : Int)) = false := by simp
    clear hs3 hf3 hn3 hl3 hr3 hc33 hX3 e0 hp0 hq0 hs0 hn KS SS HML
    clear k0 k1 k2' k3
    go_wp2_with fail
    refine KL.out.mono ?_
    rintro e w4 ⟨rfl, rfl⟩
    clear KL
    go_wp2_with fail
    refine KP.out.mono ?_
    rintro e w5 ⟨rfl, hb⟩
    have E5 := Lib.hid (E3.out.trans (hb.mono E3.out.size))
    have S5 := Lib.hid (S3.out.below hb)
    clear hb KP E3
    go_wp2_with fail
    have BE : Blk (w5.alloc (.cells #[.int .i64 p, .int .i64 q, .int .i64 s] 24)) w5.heap.size 24 #[.int .i64 p, .int .i64 q, .int .i64 s] := Blk.new w5 _ _
    have SX : StP w.heap.size (w5.alloc (.cells #[.int .i64 p, .int .i64 q, .int .i64 s] 24)) g v3 X3 (.slice A3 n c3) M3 := S5.out.none ((Fr.refl _ w5).alloc _)
    have EX : Below w.heap.size w (w5.alloc (.cells #[.int .i64 p, .int .i64 q, .int .i64 s] 24)) := E5.out.alloc E5.out.size _
    obtain ⟨g5, hg5⟩ : ∃ g, w5.heap.size = g := ⟨_, rfl⟩
    obtain ⟨V1, hV1⟩ : ∃ V, (w5.alloc (.cells #[.int .i64 p, .int .i64 q, .int .i64 s] 24)) = V := ⟨_, rfl⟩
    rw [hg5] at BE ⊢
    rw [hV1] at BE SX EX ⊢
    have HE := Lib.hid BE; have S6 := Lib.hid SX; have EE := Lib.hid EX
    clear BE SX EX hV1 hg5 S5 E5
    by_cases hn0 : 0 < n
    · have hni : (0 : Int) < (n : Int) := by omega
      have hod : decide ((0 : Int) < (n : Int)) = true := decide_eq_true hni
      have hod2 : decide (0 < n) = true := decide_eq_true (by omega)
      obtain ⟨b5, o5, rfl, _, _⟩ := rdZ_row (isE_rd S6.out.2.2.2.1) (by omega) (by omega)
      have HA := Lib.hid (isE_head S6.out.2.2.2.1 (by omega) HC.out)
      have kE0 : V1.cell? ⟨g5, 0, none⟩ = some (.int .i64 p) := HE.out.cell 0
      have kE1 : V1.cell? ⟨g5, 1, none⟩ = some (.int .i64 q) := HE.out.cell 1
      have kE2 : V1.cell? ⟨g5, 2, none⟩ = some (.int .i64 s) := HE.out.cell 2
      have kA0 : V1.cell? ⟨b5, o5, none⟩ = some (.int .i64 p) := HA.out 0 _ rfl
      have kA1 : V1.cell? ⟨b5, o5 + 1, none⟩ = some (.int .i64 q) := HA.out 1 _ rfl
      have kA2 : V1.cell? ⟨b5, o5 + 2, none⟩ = some (.int .i64 s) := HA.out 2 _ rfl
      go_wp2_with fail
      have sK : ∀ X, Blk X (g5) 24 #[.int .i64 p, .int .i64 q, .int .i64 s] → At X b5 (o5) #[.int .i64 p, .int .i64 q, .int .i64 s] → (fun X => X.cell? ⟨g5, 0, none⟩ = some (.int .i64 p) ∧ X.cell? ⟨g5, 1, none⟩ = some (.int .i64 q) ∧ X.cell? ⟨g5, 2, none⟩ = some (.int .i64 s) ∧ X.cell? ⟨b5, o5, none⟩ = some (.int .i64 p) ∧ X.cell? ⟨b5, o5 + 1, none⟩ = some (.int .i64 q) ∧ X.cell? ⟨b5, o5 + 2, none⟩ = some (.int .i64 s)) X := fun X hE hA => ⟨hE.cell 0, hE.cell 1, hE.cell 2, hA 0 _ rfl, hA 1 _ rfl, hA 2 _ rfl⟩
      have LE0 := Lib.hid (HE.out.drew)
      have LA0 := Lib.hid (HA.out.drew)
      have E0 := Lib.hid (EE.out.drew)
      clear kE0 kE1 kE2 kA0 kA1 kA2
      refine wp_region_held_drew (S := (fun X => X.cell? ⟨g5, 0, none⟩ = some (.int .i64 p) ∧ X.cell? ⟨g5, 1, none⟩ = some (.int .i64 q) ∧ X.cell? ⟨g5, 2, none⟩ = some (.int .i64 s) ∧ X.cell? ⟨b5, o5, none⟩ = some (.int .i64 p) ∧ X.cell? ⟨b5, o5 + 1, none⟩ = some (.int .i64 q) ∧ X.cell? ⟨b5, o5 + 2, none⟩ = some (.int .i64 s))) (by kernel_rfl) (sK _ LE0.out LA0.out) (fun hHeld => ?_)
      clear hHeld
      refine wpAnyH_take (i := 0) (v := ?_) rfl (by kernel_rfl) (by kernel_rfl) (by kernel_rfl) (fun _ _ _ h => h) (Or.inl ⟨by rfl, ?_⟩) (sK _ LE0.out LA0.out) ?_
      rotate_left
      · (intro wS hSw; (try dsimp only at hSw); go_simp; try with_reducible rfl)
      simp only [Act.put, List.getElem_toArray, List.getElem_cons_zero, List.getElem_cons_succ, List.setIfInBounds_toArray, List.set_cons_zero, List.set_cons_succ]
      refine wpAnyH_take (i := 1) (v := ?_) rfl (by kernel_rfl) (by kernel_rfl) (by kernel_rfl) (fun _ _ _ h => h) (Or.inl ⟨by rfl, ?_⟩) (sK _ LE0.out LA0.out) ?_
      rotate_left
      · (intro wS hSw; (try dsimp only at hSw); go_simp; try with_reducible rfl)
      simp only [Act.put, List.getElem_toArray, List.getElem_cons_zero, List.getElem_cons_succ, List.setIfInBounds_toArray, List.set_cons_zero, List.set_cons_succ]
      refine wpAnyH_take (i := 2) (v := ?_) rfl (by kernel_rfl) (by kernel_rfl) (by kernel_rfl) (fun _ _ _ h => h) (Or.inl ⟨by rfl, ?_⟩) (sK _ LE0.out LA0.out) ?_
      rotate_left
      · (intro wS hSw; (try dsimp only at hSw); go_simp; try with_reducible rfl)
      simp only [Act.put, List.getElem_toArray, List.getElem_cons_zero, List.getElem_cons_succ, List.setIfInBounds_toArray, List.set_cons_zero, List.set_cons_succ]
      refine wpAnyH_take (i := 3) (v := ?_) rfl (by kernel_rfl) (by kernel_rfl) (by kernel_rfl) (fun _ _ _ h => h) (Or.inl ⟨by rfl, ?_⟩) (sK _ LE0.out LA0.out) ?_
      rotate_left
      · (intro wS hSw; (try dsimp only at hSw); go_simp; try with_reducible rfl)
      simp only [Act.put, List.getElem_toArray, List.getElem_cons_zero, List.getElem_cons_succ, List.setIfInBounds_toArray, List.set_cons_zero, List.set_cons_succ]
      refine wpAnyH_take (i := 4) (v := ?_) rfl (by kernel_rfl) (by kernel_rfl) (by kernel_rfl) (fun _ _ _ h => h) (Or.inl ⟨by rfl, ?_⟩) (sK _ LE0.out LA0.out) ?_
      rotate_left
      · (intro wS hSw; (try dsimp only at hSw); go_simp; try with_reducible rfl)
      simp only [Act.put, List.getElem_toArray, List.getElem_cons_zero, List.getElem_cons_succ, List.setIfInBounds_toArray, List.set_cons_zero, List.set_cons_succ]
      refine wpAnyH_take (i := 5) (v := ?_) rfl (by kernel_rfl) (by kernel_rfl) (by kernel_rfl) (fun _ _ _ h => h) (Or.inl ⟨by rfl, ?_⟩) (sK _ LE0.out LA0.out) ?_
      rotate_left
      · (intro wS hSw; (try dsimp only at hSw); go_simp; try with_reducible rfl)
      simp only [Act.put, List.getElem_toArray, List.getElem_cons_zero, List.getElem_cons_succ, List.setIfInBounds_toArray, List.set_cons_zero, List.set_cons_succ]
      refine wpAnyH_take (i := 6) (v := ?_) rfl (by kernel_rfl) (by kernel_rfl) (by kernel_rfl) (fun _ _ _ h => h) (Or.inl ⟨by rfl, ?_⟩) (sK _ LE0.out LA0.out) ?_
      rotate_left
      · (intro wS hSw; (try dsimp only at hSw); go_simp; try with_reducible rfl)
      simp only [Act.put, List.getElem_toArray, List.getElem_cons_zero, List.getElem_cons_succ, List.setIfInBounds_toArray, List.set_cons_zero, List.set_cons_succ]
      refine wpAnyH_take (i := 7) (v := ?_) rfl (by kernel_rfl) (by kernel_rfl) (by kernel_rfl) (fun _ _ _ h => h) (Or.inl ⟨by rfl, ?_⟩) (sK _ LE0.out LA0.out) ?_
      rotate_left
      · (intro wS hSw; (try dsimp only at hSw); go_simp; try with_reducible rfl)
      simp only [Act.put, List.getElem_toArray, List.getElem_cons_zero, List.getElem_cons_succ, List.setIfInBounds_toArray, List.set_cons_zero, List.set_cons_succ]
      refine wpAnyH_take (i := 8) (v := ?_) rfl (by kernel_rfl) (by kernel_rfl) (by kernel_rfl) (fun _ _ _ h => h) (Or.inl ⟨by rfl, ?_⟩) (sK _ LE0.out LA0.out) ?_
      rotate_left
      · (intro wS hSw; (try dsimp only at hSw); go_simp; try with_reducible rfl)
      simp only [Act.put, List.getElem_toArray, List.getElem_cons_zero, List.getElem_cons_succ, List.setIfInBounds_toArray, List.set_cons_zero, List.set_cons_succ]
      refine wpAnyH_take (i := 9) (v := ?_) rfl (by kernel_rfl) (by kernel_rfl) (by kernel_rfl) (fun _ _ _ h => h) (Or.inl ⟨by rfl, ?_⟩) (sK _ LE0.out LA0.out) ?_
      rotate_left
      · (intro wS hSw; (try dsimp only at hSw); go_simp; try with_reducible rfl)
      simp only [Act.put, List.getElem_toArray, List.getElem_cons_zero, List.getElem_cons_succ, List.setIfInBounds_toArray, List.set_cons_zero, List.set_cons_succ]
      refine wpAnyH_take (i := 10) (v := ?_) rfl (by kernel_rfl) (by kernel_rfl) (by kernel_rfl) (fun _ _ _ h => h) (Or.inl ⟨by rfl, ?_⟩) (sK _ LE0.out LA0.out) ?_
      rotate_left
      · (intro wS hSw; (try dsimp only at hSw); go_simp; try with_reducible rfl)
      simp only [Act.put, List.getElem_toArray, List.getElem_cons_zero, List.getElem_cons_succ, List.setIfInBounds_toArray, List.set_cons_zero, List.set_cons_succ]
      refine wpAnyH_take (i := 11) (v := ?_) rfl (by kernel_rfl) (by kernel_rfl) (by kernel_rfl) (fun _ _ _ h => h) (Or.inl ⟨by rfl, ?_⟩) (sK _ LE0.out LA0.out) ?_
      rotate_left
      · (intro wS hSw; (try dsimp only at hSw); go_simp; try with_reducible rfl)
      simp only [Act.put, List.getElem_toArray, List.getElem_cons_zero, List.getElem_cons_succ, List.setIfInBounds_toArray, List.set_cons_zero, List.set_cons_succ]
      refine wpAnyH_take (i := 12) (v := ?_) rfl (by kernel_rfl) (by kernel_rfl) (by kernel_rfl) (fun _ _ _ h => h) (Or.inl ⟨by rfl, ?_⟩) (sK _ LE0.out LA0.out) ?_
      rotate_left
      · (intro wS hSw; (try dsimp only at hSw); go_simp; try with_reducible rfl)
      simp only [Act.put, List.getElem_toArray, List.getElem_cons_zero, List.getElem_cons_succ, List.setIfInBounds_toArray, List.set_cons_zero, List.set_cons_succ]
      refine wpAnyH_take (i := 13) (v := ?_) rfl (by kernel_rfl) (by kernel_rfl) (by kernel_rfl) (fun _ _ _ h => h) (Or.inl ⟨by rfl, ?_⟩) (sK _ LE0.out LA0.out) ?_
      rotate_left
      · (intro wS hSw; (try dsimp only at hSw); go_simp; try with_reducible rfl)
      simp only [Act.put, List.getElem_toArray, List.getElem_cons_zero, List.getElem_cons_succ, List.setIfInBounds_toArray, List.set_cons_zero, List.set_cons_succ]
      refine wpAnyH_take (i := 14) (v := ?_) rfl (by kernel_rfl) (by kernel_rfl) (by kernel_rfl) (fun _ _ _ h => h) (Or.inl ⟨by rfl, ?_⟩) (sK _ LE0.out LA0.out) ?_
      rotate_left
      · (intro wS hSw; (try dsimp only at hSw); go_simp; try with_reducible rfl)
      simp only [Act.put, List.getElem_toArray, List.getElem_cons_zero, List.getElem_cons_succ, List.setIfInBounds_toArray, List.set_cons_zero, List.set_cons_succ]
      refine wpAnyH_take (i := 15) (v := ?_) rfl (by kernel_rfl) (by kernel_rfl) (by kernel_rfl) (fun _ _ _ h => h) (Or.inl ⟨by rfl, ?_⟩) (sK _ LE0.out LA0.out) ?_
      rotate_left
      · (intro wS hSw; (try dsimp only at hSw); go_simp; try with_reducible rfl)
      simp only [Act.put, List.getElem_toArray, List.getElem_cons_zero, List.getElem_cons_succ, List.setIfInBounds_toArray, List.set_cons_zero, List.set_cons_succ]
      refine wpAnyH_take (i := 16) (v := ?_) rfl (by kernel_rfl) (by kernel_rfl) (by kernel_rfl) (fun _ _ _ h => h) (Or.inl ⟨by rfl, ?_⟩) (sK _ LE0.out LA0.out) ?_
      rotate_left
      · (intro wS hSw; (try dsimp only at hSw); go_simp; try with_reducible rfl)
      simp only [Act.put, List.getElem_toArray, List.getElem_cons_zero, List.getElem_cons_succ, List.setIfInBounds_toArray, List.set_cons_zero, List.set_cons_succ]
      refine wpAnyH_take (i := 17) (v := ?_) rfl (by kernel_rfl) (by kernel_rfl) (by kernel_rfl) (fun _ _ _ h => h) (Or.inl ⟨by rfl, ?_⟩) (sK _ LE0.out LA0.out) ?_
      rotate_left
      · (intro wS hSw; (try dsimp only at hSw); go_simp; try with_reducible rfl)
      simp only [Act.put, List.getElem_toArray, List.getElem_cons_zero, List.getElem_cons_succ, List.setIfInBounds_toArray, List.set_cons_zero, List.set_cons_succ]
      refine wpAnyH_take (i := 18) (v := ?_) rfl (by kernel_rfl) (by kernel_rfl) (by kernel_rfl) (fun _ _ _ h => h) (Or.inl ⟨by rfl, ?_⟩) (sK _ LE0.out LA0.out) ?_
      rotate_left
      · (intro wS hSw; (try dsimp only at hSw); go_simp; try with_reducible rfl)
      simp only [Act.put, List.getElem_toArray, List.getElem_cons_zero, List.getElem_cons_succ, List.setIfInBounds_toArray, List.set_cons_zero, List.set_cons_succ]
      refine wpAnyH_take (i := 19) (v := undef) rfl (by kernel_rfl) (by kernel_rfl) (by kernel_rfl) (fun _ _ _ h => h) (Or.inr ⟨by kernel_rfl, rfl⟩) (sK _ LE0.out LA0.out) ?_
      simp only [Act.put, List.getElem_toArray, List.getElem_cons_zero, List.getElem_cons_succ, List.setIfInBounds_toArray, List.set_cons_zero, List.set_cons_succ]
      refine wpAnyH_take (i := 20) (v := undef) rfl (by kernel_rfl) (by kernel_rfl) (by kernel_rfl) (fun _ _ _ h => h) (Or.inr ⟨by kernel_rfl, rfl⟩) (sK _ LE0.out LA0.out) ?_
      simp only [Act.put, List.getElem_toArray, List.getElem_cons_zero, List.getElem_cons_succ, List.setIfInBounds_toArray, List.set_cons_zero, List.set_cons_succ]
      refine wpAnyH_take (i := 21) (v := undef) rfl (by kernel_rfl) (by kernel_rfl) (by kernel_rfl) (fun _ _ _ h => h) (Or.inr ⟨by kernel_rfl, rfl⟩) (sK _ LE0.out LA0.out) ?_
      simp only [Act.put, List.getElem_toArray, List.getElem_cons_zero, List.getElem_cons_succ, List.setIfInBounds_toArray, List.set_cons_zero, List.set_cons_succ]
      refine wpAnyH_take (i := 22) (v := ?_) rfl (by kernel_rfl) (by kernel_rfl) (by kernel_rfl) (fun _ _ _ h => h) (Or.inl ⟨by rfl, ?_⟩) (sK _ LE0.out LA0.out) ?_
      rotate_left
      · (intro wS hSw; (try dsimp only at hSw); go_simp; try with_reducible rfl)
      simp only [Act.put, List.getElem_toArray, List.getElem_cons_zero, List.getElem_cons_succ, List.setIfInBounds_toArray, List.set_cons_zero, List.set_cons_succ]
      refine wpAnyH_take (i := 23) (v := ?_) rfl (by kernel_rfl) (by kernel_rfl) (by kernel_rfl) (fun _ _ _ h => h) (Or.inl ⟨by rfl, ?_⟩) (sK _ LE0.out LA0.out) ?_
      rotate_left
      · (intro wS hSw; (try dsimp only at hSw); go_simp; try with_reducible rfl)
      simp only [Act.put, List.getElem_toArray, List.getElem_cons_zero, List.getElem_cons_succ, List.setIfInBounds_toArray, List.set_cons_zero, List.set_cons_succ]
      refine wpAnyH_done (by kernel_rfl) ?_ _
      go_wp2_with fail
      go_roundw
      case rel => exact ⟨j + 1, _, v3, X3, M3, rfl, by go_num, by omega, Lib.hid (S6.out.none (Fr.refl _ V1).drew), HML3, E0⟩
      case measure => simp [intOf]; omega
    · have hnz : n = 0 := by omega
      subst hnz
      have hMn : M3 = [] := List.length_eq_zero_iff.1 HN.out
      have hpq : p = 0 ∧ q = 0 ∧ s = 0 := by have := HC.out; rw [hMn, eE_nil] at this; simp only [Prod.mk.injEq] at this; omega
      obtain ⟨rfl, rfl, rfl⟩ := hpq
      clear hMn
      have kE0 : V1.cell? ⟨g5, 0, none⟩ = some (.int .i64 0) := HE.out.cell 0
      have kE1 : V1.cell? ⟨g5, 1, none⟩ = some (.int .i64 0) := HE.out.cell 1
      have kE2 : V1.cell? ⟨g5, 2, none⟩ = some (.int .i64 0) := HE.out.cell 2
      go_wp2_with fail
      have sK : ∀ X, Blk X (g5) 24 #[.int .i64 0, .int .i64 0, .int .i64 0] → (fun X => X.cell? ⟨g5, 0, none⟩ = some (.int .i64 0) ∧ X.cell? ⟨g5, 1, none⟩ = some (.int .i64 0) ∧ X.cell? ⟨g5, 2, none⟩ = some (.int .i64 0)) X := fun X hE => ⟨hE.cell 0, hE.cell 1, hE.cell 2⟩
      have LE0 := Lib.hid (HE.out.drew)
      have E0 := Lib.hid (EE.out.drew)
      clear kE0 kE1 kE2
      refine wp_region_held_drew (S := (fun X => X.cell? ⟨g5, 0, none⟩ = some (.int .i64 0) ∧ X.cell? ⟨g5, 1, none⟩ = some (.int .i64 0) ∧ X.cell? ⟨g5, 2, none⟩ = some (.int .i64 0))) (by kernel_rfl) (sK _ LE0.out) (fun hHeld => ?_)
      clear hHeld
      refine wpAnyH_take (i := 0) (v := ?_) rfl (by kernel_rfl) (by kernel_rfl) (by kernel_rfl) (fun _ _ _ h => h) (Or.inl ⟨by rfl, ?_⟩) (sK _ LE0.out) ?_
      rotate_left
      · (intro wS hSw; (try dsimp only at hSw); go_simp; try with_reducible rfl)
      simp only [Act.put, List.getElem_toArray, List.getElem_cons_zero, List.getElem_cons_succ, List.setIfInBounds_toArray, List.set_cons_zero, List.set_cons_succ]
      refine wpAnyH_take (i := 1) (v := ?_) rfl (by kernel_rfl) (by kernel_rfl) (by kernel_rfl) (fun _ _ _ h => h) (Or.inl ⟨by rfl, ?_⟩) (sK _ LE0.out) ?_
      rotate_left
      · (intro wS hSw; (try dsimp only at hSw); go_simp; try with_reducible rfl)
      simp only [Act.put, List.getElem_toArray, List.getElem_cons_zero, List.getElem_cons_succ, List.setIfInBounds_toArray, List.set_cons_zero, List.set_cons_succ]
      refine wpAnyH_take (i := 2) (v := ?_) rfl (by kernel_rfl) (by kernel_rfl) (by kernel_rfl) (fun _ _ _ h => h) (Or.inl ⟨by rfl, ?_⟩) (sK _ LE0.out) ?_
      rotate_left
      · (intro wS hSw; (try dsimp only at hSw); go_simp; try with_reducible rfl)
      simp only [Act.put, List.getElem_toArray, List.getElem_cons_zero, List.getElem_cons_succ, List.setIfInBounds_toArray, List.set_cons_zero, List.set_cons_succ]
      refine wpAnyH_take (i := 3) (v := ?_) rfl (by kernel_rfl) (by kernel_rfl) (by kernel_rfl) (fun _ _ _ h => h) (Or.inl ⟨by rfl, ?_⟩) (sK _ LE0.out) ?_
      rotate_left
      · (intro wS hSw; (try dsimp only at hSw); go_simp; try with_reducible rfl)
      simp only [Act.put, List.getElem_toArray, List.getElem_cons_zero, List.getElem_cons_succ, List.setIfInBounds_toArray, List.set_cons_zero, List.set_cons_succ]
      refine wpAnyH_take (i := 4) (v := ?_) rfl (by kernel_rfl) (by kernel_rfl) (by kernel_rfl) (fun _ _ _ h => h) (Or.inl ⟨by rfl, ?_⟩) (sK _ LE0.out) ?_
      rotate_left
      · (intro wS hSw; (try dsimp only at hSw); go_simp; try with_reducible rfl)
      simp only [Act.put, List.getElem_toArray, List.getElem_cons_zero, List.getElem_cons_succ, List.setIfInBounds_toArray, List.set_cons_zero, List.set_cons_succ]
      refine wpAnyH_take (i := 5) (v := ?_) rfl (by kernel_rfl) (by kernel_rfl) (by kernel_rfl) (fun _ _ _ h => h) (Or.inl ⟨by rfl, ?_⟩) (sK _ LE0.out) ?_
      rotate_left
      · (intro wS hSw; (try dsimp only at hSw); go_simp; try with_reducible rfl)
      simp only [Act.put, List.getElem_toArray, List.getElem_cons_zero, List.getElem_cons_succ, List.setIfInBounds_toArray, List.set_cons_zero, List.set_cons_succ]
      refine wpAnyH_take (i := 6) (v := ?_) rfl (by kernel_rfl) (by kernel_rfl) (by kernel_rfl) (fun _ _ _ h => h) (Or.inl ⟨by rfl, ?_⟩) (sK _ LE0.out) ?_
      rotate_left
      · (intro wS hSw; (try dsimp only at hSw); go_simp; try with_reducible rfl)
      simp only [Act.put, List.getElem_toArray, List.getElem_cons_zero, List.getElem_cons_succ, List.setIfInBounds_toArray, List.set_cons_zero, List.set_cons_succ]
      refine wpAnyH_take (i := 7) (v := ?_) rfl (by kernel_rfl) (by kernel_rfl) (by kernel_rfl) (fun _ _ _ h => h) (Or.inl ⟨by rfl, ?_⟩) (sK _ LE0.out) ?_
      rotate_left
      · (intro wS hSw; (try dsimp only at hSw); go_simp; try with_reducible rfl)
      simp only [Act.put, List.getElem_toArray, List.getElem_cons_zero, List.getElem_cons_succ, List.setIfInBounds_toArray, List.set_cons_zero, List.set_cons_succ]
      refine wpAnyH_take (i := 8) (v := undef) rfl (by kernel_rfl) (by kernel_rfl) (by kernel_rfl) (fun _ _ _ h => h) (Or.inr ⟨by kernel_rfl, rfl⟩) (sK _ LE0.out) ?_
      simp only [Act.put, List.getElem_toArray, List.getElem_cons_zero, List.getElem_cons_succ, List.setIfInBounds_toArray, List.set_cons_zero, List.set_cons_succ]
      refine wpAnyH_take (i := 9) (v := undef) rfl (by kernel_rfl) (by kernel_rfl) (by kernel_rfl) (fun _ _ _ h => h) (Or.inr ⟨by kernel_rfl, rfl⟩) (sK _ LE0.out) ?_
      simp only [Act.put, List.getElem_toArray, List.getElem_cons_zero, List.getElem_cons_succ, List.setIfInBounds_toArray, List.set_cons_zero, List.set_cons_succ]
      refine wpAnyH_take (i := 10) (v := undef) rfl (by kernel_rfl) (by kernel_rfl) (by kernel_rfl) (fun _ _ _ h => h) (Or.inr ⟨by kernel_rfl, rfl⟩) (sK _ LE0.out) ?_
      simp only [Act.put, List.getElem_toArray, List.getElem_cons_zero, List.getElem_cons_succ, List.setIfInBounds_toArray, List.set_cons_zero, List.set_cons_succ]
      refine wpAnyH_take (i := 11) (v := undef) rfl (by kernel_rfl) (by kernel_rfl) (by kernel_rfl) (fun _ _ _ h => h) (Or.inr ⟨by kernel_rfl, rfl⟩) (sK _ LE0.out) ?_
      simp only [Act.put, List.getElem_toArray, List.getElem_cons_zero, List.getElem_cons_succ, List.setIfInBounds_toArray, List.set_cons_zero, List.set_cons_succ]
      refine wpAnyH_take (i := 12) (v := undef) rfl (by kernel_rfl) (by kernel_rfl) (by kernel_rfl) (fun _ _ _ h => h) (Or.inr ⟨by kernel_rfl, rfl⟩) (sK _ LE0.out) ?_
      simp only [Act.put, List.getElem_toArray, List.getElem_cons_zero, List.getElem_cons_succ, List.setIfInBounds_toArray, List.set_cons_zero, List.set_cons_succ]
      refine wpAnyH_take (i := 13) (v := ?_) rfl (by kernel_rfl) (by kernel_rfl) (by kernel_rfl) (fun _ _ _ h => h) (Or.inl ⟨by rfl, ?_⟩) (sK _ LE0.out) ?_
      rotate_left
      · (intro wS hSw; (try dsimp only at hSw); go_simp; try with_reducible rfl)
      simp only [Act.put, List.getElem_toArray, List.getElem_cons_zero, List.getElem_cons_succ, List.setIfInBounds_toArray, List.set_cons_zero, List.set_cons_succ]
      refine wpAnyH_take (i := 14) (v := ?_) rfl (by kernel_rfl) (by kernel_rfl) (by kernel_rfl) (fun _ _ _ h => h) (Or.inl ⟨by rfl, ?_⟩) (sK _ LE0.out) ?_
      rotate_left
      · (intro wS hSw; (try dsimp only at hSw); go_simp; try with_reducible rfl)
      simp only [Act.put, List.getElem_toArray, List.getElem_cons_zero, List.getElem_cons_succ, List.setIfInBounds_toArray, List.set_cons_zero, List.set_cons_succ]
      refine wpAnyH_take (i := 15) (v := ?_) rfl (by kernel_rfl) (by kernel_rfl) (by kernel_rfl) (fun _ _ _ h => h) (Or.inl ⟨by rfl, ?_⟩) (sK _ LE0.out) ?_
      rotate_left
      · (intro wS hSw; (try dsimp only at hSw); go_simp; try with_reducible rfl)
      simp only [Act.put, List.getElem_toArray, List.getElem_cons_zero, List.getElem_cons_succ, List.setIfInBounds_toArray, List.set_cons_zero, List.set_cons_succ]
      refine wpAnyH_take (i := 16) (v := ?_) rfl (by kernel_rfl) (by kernel_rfl) (by kernel_rfl) (fun _ _ _ h => h) (Or.inl ⟨by rfl, ?_⟩) (sK _ LE0.out) ?_
      rotate_left
      · (intro wS hSw; (try dsimp only at hSw); go_simp; try with_reducible rfl)
      simp only [Act.put, List.getElem_toArray, List.getElem_cons_zero, List.getElem_cons_succ, List.setIfInBounds_toArray, List.set_cons_zero, List.set_cons_succ]
      refine wpAnyH_take (i := 17) (v := ?_) rfl (by kernel_rfl) (by kernel_rfl) (by kernel_rfl) (fun _ _ _ h => h) (Or.inl ⟨by rfl, ?_⟩) (sK _ LE0.out) ?_
      rotate_left
      · (intro wS hSw; (try dsimp only at hSw); go_simp; try with_reducible rfl)
      simp only [Act.put, List.getElem_toArray, List.getElem_cons_zero, List.getElem_cons_succ, List.setIfInBounds_toArray, List.set_cons_zero, List.set_cons_succ]
      refine wpAnyH_take (i := 18) (v := ?_) rfl (by kernel_rfl) (by kernel_rfl) (by kernel_rfl) (fun _ _ _ h => h) (Or.inl ⟨by rfl, ?_⟩) (sK _ LE0.out) ?_
      rotate_left
      · (intro wS hSw; (try dsimp only at hSw); go_simp; try with_reducible rfl)
      simp only [Act.put, List.getElem_toArray, List.getElem_cons_zero, List.getElem_cons_succ, List.setIfInBounds_toArray, List.set_cons_zero, List.set_cons_succ]
      refine wpAnyH_take (i := 19) (v := ?_) rfl (by kernel_rfl) (by kernel_rfl) (by kernel_rfl) (fun _ _ _ h => h) (Or.inl ⟨by rfl, ?_⟩) (sK _ LE0.out) ?_
      rotate_left
      · (intro wS hSw; (try dsimp only at hSw); go_simp; try with_reducible rfl)
      simp only [Act.put, List.getElem_toArray, List.getElem_cons_zero, List.getElem_cons_succ, List.setIfInBounds_toArray, List.set_cons_zero, List.set_cons_succ]
      refine wpAnyH_take (i := 20) (v := ?_) rfl (by kernel_rfl) (by kernel_rfl) (by kernel_rfl) (fun _ _ _ h => h) (Or.inl ⟨by rfl, ?_⟩) (sK _ LE0.out) ?_
      rotate_left
      · (intro wS hSw; (try dsimp only at hSw); go_simp; try with_reducible rfl)
      simp only [Act.put, List.getElem_toArray, List.getElem_cons_zero, List.getElem_cons_succ, List.setIfInBounds_toArray, List.set_cons_zero, List.set_cons_succ]
      refine wpAnyH_take (i := 21) (v := ?_) rfl (by kernel_rfl) (by kernel_rfl) (by kernel_rfl) (fun _ _ _ h => h) (Or.inl ⟨by rfl, ?_⟩) (sK _ LE0.out) ?_
      rotate_left
      · (intro wS hSw; (try dsimp only at hSw); go_simp; try with_reducible rfl)
      simp only [Act.put, List.getElem_toArray, List.getElem_cons_zero, List.getElem_cons_succ, List.setIfInBounds_toArray, List.set_cons_zero, List.set_cons_succ]
      refine wpAnyH_take (i := 22) (v := ?_) rfl (by kernel_rfl) (by kernel_rfl) (by kernel_rfl) (fun _ _ _ h => h) (Or.inl ⟨by rfl, ?_⟩) (sK _ LE0.out) ?_
      rotate_left
      · (intro wS hSw; (try dsimp only at hSw); go_simp; try with_reducible rfl)
      simp only [Act.put, List.getElem_toArray, List.getElem_cons_zero, List.getElem_cons_succ, List.setIfInBounds_toArray, List.set_cons_zero, List.set_cons_succ]
      refine wpAnyH_take (i := 23) (v := ?_) rfl (by kernel_rfl) (by kernel_rfl) (by kernel_rfl) (fun _ _ _ h => h) (Or.inl ⟨by rfl, ?_⟩) (sK _ LE0.out) ?_
      rotate_left
      · (intro wS hSw; (try dsimp only at hSw); go_simp; try with_reducible rfl)
      simp only [Act.put, List.getElem_toArray, List.getElem_cons_zero, List.getElem_cons_succ, List.setIfInBounds_toArray, List.set_cons_zero, List.set_cons_succ]
      refine wpAnyH_done (by kernel_rfl) ?_ _
      go_wp2_with fail
      go_roundw
      case rel => exact ⟨j + 1, _, v3, X3, M3, rfl, by go_num, by omega, Lib.hid (S6.out.none (Fr.refl _ V1).drew), HML3, E0⟩
      case measure => simp [intOf]; omega

end Go.Proofs.Ytobeppajomhfjaa.heapPlays
