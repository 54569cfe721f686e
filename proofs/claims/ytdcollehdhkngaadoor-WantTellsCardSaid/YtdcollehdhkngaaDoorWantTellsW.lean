/- The walk of WantTells: it answers true for every input, and leaves all old blocks as they were. No condition but the laid tables, which are tied to the text. -/
import Derived.Test.YtdcollehdhkngaaDoorRows
import Derived.Test.YtdcollehdhkngaaDoorRowKit
import Derived.Test.YtdcollehdhkngaaDoorRowS
import Derived.Test.YtdcollehdhkngaaDoorRowZ
import Derived.Test.YtdcollehdhkngaaDoorRowS2
import Derived.Test.YtdcollehdhkngaaDoorBlocks
import Derived.Test.YtdcollehdhkngaaDoorSlicesEq
import Derived.Test.YtdcollehdhkngaaDoorSlicesEqM
import Derived.Test.YtdcollehdhkngaaDoorRowL
import Derived.Test.YtdcollehdhkngaaDoorMakeI
import Derived.Test.YtdcollehdhkngaaDoorBitsMath
import Derived.Test.YtdcollehdhkngaaDoorBitsA2
import Derived.Test.YtdcollehdhkngaaDoorBitsD
import Derived.Test.YtdcollehdhkngaaDoorBitsE
import Derived.Test.YtdcollehdhkngaaDoorBitsG
import Derived.Test.YtdcollehdhkngaaDoorBitsH
import Derived.Test.YtdcollehdhkngaaDoorBitsK
import Derived.Test.YtdcollehdhkngaaDoorBitsL
import Derived.Test.YtdcollehdhkngaaDoorBitsN
import Derived.Test.YtdcollehdhkngaaDoorBitsP
import Derived.Test.YtdcollehdhkngaaDoorBitsS
import Derived.Test.YtdcollehdhkngaaDoorBitsU
import Derived.Test.YtdcollehdhkngaaDoorBitsV
import Derived.Test.YtdcollehdhkngaaDoorBitsWa
import Derived.Test.YtdcollehdhkngaaDoorBitsX
import Derived.Test.YtdcollehdhkngaaDoorWantA
import Derived.Test.YtdcollehdhkngaaDoorWantB
import Derived.Test.YtdcollehdhkngaaDoorWantC
import Derived.Test.YtdcollehdhkngaaDoorWantD
import Derived.Test.YtdcollehdhkngaaDoorWantE
import Derived.Test.YtdcollehdhkngaaDoorCarA
import Derived.Test.YtdcollehdhkngaaDoorCarB
import Derived.Test.YtdcollehdhkngaaDoorWantF
import Derived.Test.YtdcollehdhkngaaDoorWantG
import Derived.WalkKit
import Derived.ProofKit
import Derived.OpenShut
import Derived.Deep.QuietTactic
import Derived.BigQuiet
import Derived.Lib.SmallJoins
import Derived.Lib.Hide
import Derived.WalkSpells
import Derived.WalkLawsBesides
import Derived.Lib.TrailingZeros
import Derived.Lib.LaidTab
import Derived.Lib.LaidU8
import Derived.Deep.LoopGhost
import Derived.Deep.RegionHeld3
import Derived.IntWalk
namespace Go.Proofs.YtdcollehdhkngaaDoor.wantTells
open Go.ChangeShapes Go.WideShapes Go.ChangeAt Go.RowKit Go.Joins
set_option linter.unusedSimpArgs false
set_option linter.unusedVariables false

theorem bz_gT : Tryd.prog.globalNamed "math/bits.deBruijn64tab" = some 0 := by kernel_rfl
theorem bz_gTType : (Tryd.prog.globals[0]?).map (·.type) = some 111 := by kernel_rfl
theorem tz_of_laid {w : World} (h0 : laidMetH Tryd.prog Rows.wantTellsRow.laid w) : TzT w := by
  have h : laidMet Tryd.prog Rows.wantTellsRow.laid w := h0
  obtain ⟨g', t', cs, fuel, p, hg', ht', hvar, hd⟩ := Lib.laidMet.reads h (.head _)
  obtain rfl := Option.some.inj (bz_gT.symm.trans hg')
  obtain rfl := Option.some.inj (bz_gTType.symm.trans ht')
  have e := Lib.cells_of_tab (zs := Lib.deBruijn64tab.map Int.ofNat) Tryd.underlying111 Tryd.underlying5 (by kernel_rfl) (by kernel_rfl) hd
  unfold World.var? at hvar
  rw [bz_gT] at hvar
  simp only [Option.bind_some] at hvar
  split at hvar
  · rename_i cs' t fr hg
    cases hvar
    intro j hj
    show w.cell? _ = _
    rw [cell_of_row w _ j cs t fr hg, ← Array.getElem?_toList, e, List.getElem?_map, List.getElem?_map, List.getElem?_eq_getElem hj, List.getD_eq_getElem?_getD, List.getElem?_eq_getElem hj]
    rfl
  · cases hvar
theorem sixW {w : World} {g : Nat} {t : TypeId} {a b c d e f : Value} (h : Blk w g t #[a, b, c, d, e, f]) : w.cell? ⟨g, 0, none⟩ = some a ∧ w.cell? ⟨g, 1, none⟩ = some b ∧ w.cell? ⟨g, 2, none⟩ = some c ∧ w.cell? ⟨g, 3, none⟩ = some d ∧ w.cell? ⟨g, 4, none⟩ = some e ∧ w.cell? ⟨g, 5, none⟩ = some f :=
  ⟨h.cell 0, h.cell 1, h.cell 2, h.cell 3, h.cell 4, h.cell 5⟩
theorem rrides_rd (p d md l : Int) (wa : Bool) (A : Option Addr) (n c : Nat) (z : Nat → Nat → Int) (w : World) (hr : RdZ w 2 A n z) (hl : n ≤ 1000) :
    Calls Tryd.prog 34 #[carV p d md l wa A n c] w fun e w' => ∃ A c, e = .returned (.slice A (itL (rdF z n) 128).length c) ∧ RdI w' .i64 A (itL (rdF z n) 128) ∧ Below w.heap.size w w' :=
  (rrides_any p d md l wa A n c z w hr hl).mono fun _ _ ⟨v, B, h1, h2, _, _, h5⟩ => by
    obtain ⟨A', c', hv, hR⟩ := ownR_rd h2 (itL_wf _ 128 (Nat.le_refl _))
    exact ⟨A', c', by rw [h1, hv], hR, h5⟩
theorem rlands_rd (p d md l : Int) (wa : Bool) (A : Option Addr) (n c : Nat) (cap : Int) (G : Nat → Bool) (w : World) :
    Calls Tryd.prog 38 #[carV p d md l wa A n c, .int .i64 cap, setV G] w fun e w' => ∃ A c, e = .returned (.slice A (itL (laF n cap G) 128).length c) ∧ RdI w' .i64 A (itL (laF n cap G) 128) ∧ Below w.heap.size w w' :=
  (rlands_any p d md l wa A n c cap G w).mono fun _ _ ⟨v, B, h1, h2, _, _, h5⟩ => by
    obtain ⟨A', c', hv, hR⟩ := ownR_rd h2 (itL_wf _ 128 (Nat.le_refl _))
    exact ⟨A', c', by rw [h1, hv], hR, h5⟩
set_option maxRecDepth 100000 in
set_option maxHeartbeats 4000000 in
theorem walk_f (p d md l : Int) (wa : Bool) (A : Option Addr) (n c : Nat) (z : Nat → Nat → Int) (U D : Nat → Bool) (cap : Int) (w : World) (hT : TzT w) (hr : RdZ w 2 A n z) (hm : n ≤ maxLen) :
    Calls Tryd.prog 6 #[carV p d md l wa A n c, .int .i64 cap, .agg #[.int .u64 (wordX U), .int .u64 (wordY U), .int .u64 (wordX D), .int .u64 (wordY D)]] w fun e w' => e = .returned (.bool true) ∧ Below w.heap.size w w' := by
  unfold maxLen at hm
  by_cases h100 : n ≤ 100
  case neg =>
    have g : (100 : Int) < n := by omega
    unfold carV
    go_enter Tryd.func6, Tryd.ntmps6
    go_wp2_with fail
    go_ret
    exact ⟨rfl, ((Below.refl w.heap.size w).alloc (Nat.le_refl _) _).alloc (by simp) _⟩
  have HT := Lib.hid hT
  have HR := Lib.hid hr
  have RI := fun w hr => rides_any p d md l wa A n c z w hr (by omega)
  have DR := fun w hr => rrides_rd p d md l wa A n c z w hr (by omega)
  have O1 := fun A c w hr => rof_any A c (itL (rdF z n) 128) w hr (by have := itL_len (rdF z n) 128; omega)
  have O2 := fun A c w hr => rof_any A c (itL (laF n cap U) 128) w hr (by have := itL_len (laF n cap U) 128; omega)
  rw [of_items] at O1 O2
  have FU := fun w => full_cap p d md l wa A n c cap w
  have DF := fun w => rfull_any p d md l wa A n c cap w
  have LU := fun w => lands_any p d md l wa A n c cap U w
  have DL := fun w => rlands_rd p d md l wa A n c cap U w
  have WO := fun w hr => wof_any p d md l wa A n c z cap U D w hr (by omega)
  have DW := fun w hr => rwof_any p d md l wa A n c z cap U D w hr (by omega)
  obtain ⟨L1, hL1⟩ : ∃ L, itL (rdF z n) 128 = L := ⟨_, rfl⟩
  obtain ⟨L2, hL2⟩ : ∃ L, itL (laF n cap U) 128 = L := ⟨_, rfl⟩
  simp only [hL1, hL2] at DR O1 O2 DL
  obtain ⟨n1, hn1⟩ : ∃ k, L1.length = k := ⟨_, rfl⟩
  obtain ⟨n2, hn2⟩ : ∃ k, L2.length = k := ⟨_, rfl⟩
  simp only [hn1, hn2] at DR O1 O2 DL
  unfold carV setV at *
  obtain ⟨a0, ha0⟩ : ∃ x, wordX U = x := ⟨_, rfl⟩
  obtain ⟨a1, ha1⟩ : ∃ x, wordY U = x := ⟨_, rfl⟩
  obtain ⟨b0, hb0⟩ : ∃ x, wordX D = x := ⟨_, rfl⟩
  obtain ⟨b1, hb1⟩ : ∃ x, wordY D = x := ⟨_, rfl⟩
  obtain ⟨r0, hr0⟩ : ∃ x, wordX (rdF z n) = x := ⟨_, rfl⟩
  obtain ⟨r1, hr1⟩ : ∃ x, wordY (rdF z n) = x := ⟨_, rfl⟩
  obtain ⟨u0, hu0⟩ : ∃ x, wordX (laF n cap U) = x := ⟨_, rfl⟩
  obtain ⟨u1, hu1⟩ : ∃ x, wordY (laF n cap U) = x := ⟨_, rfl⟩
  obtain ⟨t0, ht0⟩ : ∃ x, wordX (waF z n cap U D) = x := ⟨_, rfl⟩
  obtain ⟨t1, ht1⟩ : ∃ x, wordY (waF z n cap U D) = x := ⟨_, rfl⟩
  obtain ⟨bf, hbf⟩ : ∃ b, decide (cap ≤ (n : Int)) = b := ⟨_, rfl⟩
  simp only [ha0, ha1, hb0, hb1, hr0, hr1, hu0, hu1, ht0, ht1, hbf] at RI DR O1 O2 FU DF LU DL WO DW ⊢
  replace RI := Lib.hid RI
  replace DR := Lib.hid DR
  replace O1 := Lib.hid O1
  replace O2 := Lib.hid O2
  replace FU := Lib.hid FU
  replace DF := Lib.hid DF
  replace LU := Lib.hid LU
  replace DL := Lib.hid DL
  replace WO := Lib.hid WO
  replace DW := Lib.hid DW
  have EQ0 := set_same r0 r1
  have EQ1 := set_same u0 u1
  have EQ2 := set_same t0 t1
  have g100 : ¬ ((100 : Int) < n) := by omega
  clear ha0 ha1 hb0 hb1 hr0 hr1 hu0 hu1 ht0 ht1 hbf hL1 hL2 hn1 hn2 hT hr h100
  go_enter Tryd.func6, Tryd.ntmps6
  go_wp2_with fail
  rename_i hK0
  obtain ⟨A0, A1, _, AE⟩ := two_blk (w := w) (Below.refl _ ((w.alloc (.cells #[(.int .i64 p : Value), .int .i64 d, .int .i64 md, .int .i64 l, .bool wa, .slice A n c] 47)).alloc (.cells #[(.int .u64 a0 : Value), .int .u64 a1, .int .u64 b0, .int .u64 b1] 48)))
  obtain ⟨X0, hX0⟩ : ∃ X, ((w.alloc (.cells #[(.int .i64 p : Value), .int .i64 d, .int .i64 md, .int .i64 l, .bool wa, .slice A n c] 47)).alloc (.cells #[(.int .u64 a0 : Value), .int .u64 a1, .int .u64 b0, .int .u64 b1] 48)) = X := ⟨_, rfl⟩
  rw [hX0] at A0 A1 AE ⊢
  have hsz : X0.heap.size = w.heap.size + 1 + 1 := by rw [← hX0]; simp
  clear hX0
  have sK : ∀ W, Below X0.heap.size X0 W → (fun W => W.cell? ⟨w.heap.size + 1, 0, none⟩ = some (.int .u64 a0) ∧ W.cell? ⟨w.heap.size + 1, 1, none⟩ = some (.int .u64 a1) ∧ W.cell? ⟨w.heap.size + 1, 2, none⟩ = some (.int .u64 b0) ∧ W.cell? ⟨w.heap.size + 1, 3, none⟩ = some (.int .u64 b1)) W := fun W hb => ⟨(A1.next hb).cell 0, (A1.next hb).cell 1, (A1.next hb).cell 2, (A1.next hb).cell 3⟩
  refine Code.wp_mono (Q := fun e a W => e = .normal ∧ ∃ g h, a = { tmps := #[.agg #[.int .i64 p, .int .i64 d, .int .i64 md, .int .i64 l, .bool wa, .slice A n c], .int .i64 cap, .agg #[.int .u64 a0, .int .u64 a1, .int .u64 b0, .int .u64 b1], .pointer (some ⟨w.heap.size, 0, none⟩), undef, .pointer (some ⟨w.heap.size + 1, 0, none⟩), .bool false, .pointer (some ⟨g, 0, none⟩), .pointer (some ⟨h, 0, none⟩), .pointer (some ⟨w.heap.size, 5, none⟩), .slice A n c, .int .i64 n, .bool false, .pointer (some ⟨w.heap.size + 1, 0, none⟩), .agg #[.int .u64 a0, .int .u64 a1], .pointer (some ⟨w.heap.size + 1, 2, none⟩), .agg #[.int .u64 b0, .int .u64 b1], undef, undef, undef, undef, undef, undef, undef, undef, undef, undef, undef, undef, undef, undef, undef, undef, undef, undef, undef, undef, undef, undef, undef, undef, undef, undef, undef, undef, undef, undef, undef, undef, undef, undef, undef, undef, undef, undef, undef, undef, undef, undef, undef], defers := [] } ∧ Below X0.heap.size X0 W ∧ Blk W g 24 #[.int .u64 a0, .int .u64 a1] ∧ Blk W h 24 #[.int .u64 b0, .int .u64 b1]) (fun e a W hq => ?_) ?_
  case refine_2 =>
    refine wp_region_held_drew (S := (fun W => W.cell? ⟨w.heap.size + 1, 0, none⟩ = some (.int .u64 a0) ∧ W.cell? ⟨w.heap.size + 1, 1, none⟩ = some (.int .u64 a1) ∧ W.cell? ⟨w.heap.size + 1, 2, none⟩ = some (.int .u64 b0) ∧ W.cell? ⟨w.heap.size + 1, 3, none⟩ = some (.int .u64 b1))) (by kernel_rfl) (sK _ (Below.refl _ _).drew) (fun hHeld => ?_)
    clear hHeld
    have E0 : Below X0.heap.size X0 X0.drew := (Below.refl _ _).drew
    obtain ⟨W0, hV⟩ : ∃ V, X0.drew = V := ⟨_, rfl⟩
    rw [hV] at E0 ⊢
    clear hV
    refine wpAnyH_take (i := 0) (v := .pointer (some ⟨w.heap.size + 1, 0, none⟩)) rfl (by kernel_rfl) (by kernel_rfl) (by kernel_rfl) (fun _ _ _ h => nomatch h.1) (Or.inl ⟨by rfl, ?_⟩) (sK _ E0) ?_
    · intro w hSw; (try dsimp only at hSw); go_simp
    simp only [Act.put, List.setIfInBounds_toArray, List.set_cons_zero, List.set_cons_succ]
    refine wpAnyH_take (i := 1) (v := .agg #[.int .u64 a0, .int .u64 a1]) rfl (by kernel_rfl) (by kernel_rfl) (by kernel_rfl) (fun _ _ _ h => nomatch h.1) (Or.inl ⟨by rfl, ?_⟩) (sK _ E0) ?_
    · intro w hSw; (try dsimp only at hSw); go_simp
    simp only [Act.put, List.setIfInBounds_toArray, List.set_cons_zero, List.set_cons_succ]
    refine wpAnyH_take (i := 2) (v := .pointer (some ⟨w.heap.size + 1, 2, none⟩)) rfl (by kernel_rfl) (by kernel_rfl) (by kernel_rfl) (fun _ _ _ h => nomatch h.1) (Or.inl ⟨by rfl, ?_⟩) (sK _ E0) ?_
    · intro w hSw; (try dsimp only at hSw); go_simp
    simp only [Act.put, List.setIfInBounds_toArray, List.set_cons_zero, List.set_cons_succ]
    refine wpAnyH_take (i := 3) (v := .agg #[.int .u64 b0, .int .u64 b1]) rfl (by kernel_rfl) (by kernel_rfl) (by kernel_rfl) (fun _ _ _ h => nomatch h.1) (Or.inl ⟨by rfl, ?_⟩) (sK _ E0) ?_
    · intro w hSw; (try dsimp only at hSw); go_simp
    simp only [Act.put, List.setIfInBounds_toArray, List.set_cons_zero, List.set_cons_succ]
    refine wpAnyH_ready (rs := [4, 5]) (by kernel_rfl) (by simp) ?_
    refine AllReadyH.cons rfl (fun K hK => ?_) ?_
    · go_simp
      have E1 := E0.alloc E0.size (.cells #[.int .u64 0, .int .u64 0] 24)
      have x_1 : Blk (World.alloc W0 (.cells #[.int .u64 0, .int .u64 0] 24)) W0.heap.size 24 #[.int .u64 0, .int .u64 0] := Blk.new _ _ _
      have ge_x := E0.size
      obtain ⟨W1, hV⟩ : ∃ V, World.alloc W0 (.cells #[.int .u64 0, .int .u64 0] 24) = V := ⟨_, rfl⟩
      obtain ⟨g1, hg⟩ : ∃ g, W0.heap.size = g := ⟨_, rfl⟩
      rw [hV, hg]
      simp only [hV, hg] at E1 x_1 ge_x
      clear hV hg
      refine hK.out _ _ (sK _ E1) (fun hHeld => ?_)
      clear hK K hHeld
      try simp only [Act.put, List.setIfInBounds_toArray, List.set_cons_zero, List.set_cons_succ]
      refine wpAnyH_ready (rs := [5]) (by kernel_rfl) (by simp) ?_
      refine AllReadyH.cons rfl (fun K hK => ?_) ?_
      · go_simp
        have E2 := E1.alloc E1.size (.cells #[.int .u64 0, .int .u64 0] 24)
        have lt_x_2 := x_1.lt
        have x_2 := x_1.alloc (.cells #[.int .u64 0, .int .u64 0] 24)
        have y_2 : Blk (World.alloc W1 (.cells #[.int .u64 0, .int .u64 0] 24)) W1.heap.size 24 #[.int .u64 0, .int .u64 0] := Blk.new _ _ _
        have ge_y := E1.size
        obtain ⟨W2, hV⟩ : ∃ V, World.alloc W1 (.cells #[.int .u64 0, .int .u64 0] 24) = V := ⟨_, rfl⟩
        obtain ⟨g2, hg⟩ : ∃ g, W1.heap.size = g := ⟨_, rfl⟩
        rw [hV, hg]
        simp only [hV, hg] at E2 x_2 lt_x_2 y_2 ge_y
        clear hV hg
        refine hK.out _ _ (sK _ E2) (fun hHeld => ?_)
        clear hK K hHeld
        try simp only [Act.put, List.setIfInBounds_toArray, List.set_cons_zero, List.set_cons_succ]
        refine wpAnyH_ready (rs := [6]) (by kernel_rfl) (by simp) ?_
        refine AllReadyH.cons rfl (fun K hK => ?_) ?_
        · obtain ⟨s0, s1, f0, f1⟩ := x_2.two
          go_simp
          have E3 : Below _ _ ((World.setCell W2 ⟨g1, 0, none⟩ (.int .u64 a0)).setCell ⟨g1, 1, none⟩ (.int .u64 a1)) := (E2.setCell ge_x _).setCell ge_x _
          have x_3 : Blk ((World.setCell W2 ⟨g1, 0, none⟩ (.int .u64 a0)).setCell ⟨g1, 1, none⟩ (.int .u64 a1)) g1 _ _ := x_2.put2 _ _
          have y_3 : Blk ((World.setCell W2 ⟨g1, 0, none⟩ (.int .u64 a0)).setCell ⟨g1, 1, none⟩ (.int .u64 a1)) g2 _ _ := (y_2.far (by show g2 ≠ g1; omega) _).far (by show g2 ≠ g1; omega) _
          clear s0 s1 f0 f1
          obtain ⟨W3, hV⟩ : ∃ V, (World.setCell W2 ⟨g1, 0, none⟩ (.int .u64 a0)).setCell ⟨g1, 1, none⟩ (.int .u64 a1) = V := ⟨_, rfl⟩
          rw [hV]
          rw [hV] at E3 x_3 y_3
          clear hV
          refine hK.out _ _ (sK _ E3) (fun hHeld => ?_)
          clear hK K hHeld
          try simp only [Act.put, List.setIfInBounds_toArray, List.set_cons_zero, List.set_cons_succ]
          refine wpAnyH_ready (rs := [7]) (by kernel_rfl) (by simp) ?_
          refine AllReadyH.cons rfl (fun K hK => ?_) ?_
          · obtain ⟨s0, s1, f0, f1⟩ := y_3.two
            go_simp
            have E4 : Below _ _ ((World.setCell W3 ⟨g2, 0, none⟩ (.int .u64 b0)).setCell ⟨g2, 1, none⟩ (.int .u64 b1)) := (E3.setCell ge_y _).setCell ge_y _
            have x_4 : Blk ((World.setCell W3 ⟨g2, 0, none⟩ (.int .u64 b0)).setCell ⟨g2, 1, none⟩ (.int .u64 b1)) g1 _ _ := (x_3.far (by show g1 ≠ g2; omega) _).far (by show g1 ≠ g2; omega) _
            have y_4 : Blk ((World.setCell W3 ⟨g2, 0, none⟩ (.int .u64 b0)).setCell ⟨g2, 1, none⟩ (.int .u64 b1)) g2 _ _ := y_3.put2 _ _
            clear s0 s1 f0 f1
            obtain ⟨W4, hV⟩ : ∃ V, (World.setCell W3 ⟨g2, 0, none⟩ (.int .u64 b0)).setCell ⟨g2, 1, none⟩ (.int .u64 b1) = V := ⟨_, rfl⟩
            rw [hV]
            rw [hV] at E4 x_4 y_4
            clear hV
            refine hK.out _ _ (sK _ E4) (fun hHeld => ?_)
            clear hK K hHeld
            try simp only [Act.put, List.setIfInBounds_toArray, List.set_cons_zero, List.set_cons_succ]
            refine wpAnyH_done (by kernel_rfl) ?_ _
            exact ⟨rfl, g1, g2, rfl, E4, x_4, y_4⟩
          exact AllReadyH.nil
        exact AllReadyH.nil
      exact AllReadyH.nil
    refine AllReadyH.cons rfl (fun K hK => ?_) ?_
    · go_simp
      have E5 := E0.alloc E0.size (.cells #[.int .u64 0, .int .u64 0] 24)
      have y_5 : Blk (World.alloc W0 (.cells #[.int .u64 0, .int .u64 0] 24)) W0.heap.size 24 #[.int .u64 0, .int .u64 0] := Blk.new _ _ _
      have ge_y := E0.size
      obtain ⟨W5, hV⟩ : ∃ V, World.alloc W0 (.cells #[.int .u64 0, .int .u64 0] 24) = V := ⟨_, rfl⟩
      obtain ⟨g5, hg⟩ : ∃ g, W0.heap.size = g := ⟨_, rfl⟩
      rw [hV, hg]
      simp only [hV, hg] at E5 y_5 ge_y
      clear hV hg
      refine hK.out _ _ (sK _ E5) (fun hHeld => ?_)
      clear hK K hHeld
      try simp only [Act.put, List.setIfInBounds_toArray, List.set_cons_zero, List.set_cons_succ]
      refine wpAnyH_ready (rs := [4]) (by kernel_rfl) (by simp) ?_
      refine AllReadyH.cons rfl (fun K hK => ?_) ?_
      · go_simp
        have E6 := E5.alloc E5.size (.cells #[.int .u64 0, .int .u64 0] 24)
        have lt_y_6 := y_5.lt
        have y_6 := y_5.alloc (.cells #[.int .u64 0, .int .u64 0] 24)
        have x_6 : Blk (World.alloc W5 (.cells #[.int .u64 0, .int .u64 0] 24)) W5.heap.size 24 #[.int .u64 0, .int .u64 0] := Blk.new _ _ _
        have ge_x := E5.size
        obtain ⟨W6, hV⟩ : ∃ V, World.alloc W5 (.cells #[.int .u64 0, .int .u64 0] 24) = V := ⟨_, rfl⟩
        obtain ⟨g6, hg⟩ : ∃ g, W5.heap.size = g := ⟨_, rfl⟩
        rw [hV, hg]
        simp only [hV, hg] at E6 y_6 lt_y_6 x_6 ge_x
        clear hV hg
        refine hK.out _ _ (sK _ E6) (fun hHeld => ?_)
        clear hK K hHeld
        try simp only [Act.put, List.setIfInBounds_toArray, List.set_cons_zero, List.set_cons_succ]
        refine wpAnyH_ready (rs := [6]) (by kernel_rfl) (by simp) ?_
        refine AllReadyH.cons rfl (fun K hK => ?_) ?_
        · obtain ⟨s0, s1, f0, f1⟩ := x_6.two
          go_simp
          have E7 : Below _ _ ((World.setCell W6 ⟨g6, 0, none⟩ (.int .u64 a0)).setCell ⟨g6, 1, none⟩ (.int .u64 a1)) := (E6.setCell ge_x _).setCell ge_x _
          have y_7 : Blk ((World.setCell W6 ⟨g6, 0, none⟩ (.int .u64 a0)).setCell ⟨g6, 1, none⟩ (.int .u64 a1)) g5 _ _ := (y_6.far (by show g5 ≠ g6; omega) _).far (by show g5 ≠ g6; omega) _
          have x_7 : Blk ((World.setCell W6 ⟨g6, 0, none⟩ (.int .u64 a0)).setCell ⟨g6, 1, none⟩ (.int .u64 a1)) g6 _ _ := x_6.put2 _ _
          clear s0 s1 f0 f1
          obtain ⟨W7, hV⟩ : ∃ V, (World.setCell W6 ⟨g6, 0, none⟩ (.int .u64 a0)).setCell ⟨g6, 1, none⟩ (.int .u64 a1) = V := ⟨_, rfl⟩
          rw [hV]
          rw [hV] at E7 y_7 x_7
          clear hV
          refine hK.out _ _ (sK _ E7) (fun hHeld => ?_)
          clear hK K hHeld
          try simp only [Act.put, List.setIfInBounds_toArray, List.set_cons_zero, List.set_cons_succ]
          refine wpAnyH_ready (rs := [7]) (by kernel_rfl) (by simp) ?_
          refine AllReadyH.cons rfl (fun K hK => ?_) ?_
          · obtain ⟨s0, s1, f0, f1⟩ := y_7.two
            go_simp
            have E8 : Below _ _ ((World.setCell W7 ⟨g5, 0, none⟩ (.int .u64 b0)).setCell ⟨g5, 1, none⟩ (.int .u64 b1)) := (E7.setCell ge_y _).setCell ge_y _
            have y_8 : Blk ((World.setCell W7 ⟨g5, 0, none⟩ (.int .u64 b0)).setCell ⟨g5, 1, none⟩ (.int .u64 b1)) g5 _ _ := y_7.put2 _ _
            have x_8 : Blk ((World.setCell W7 ⟨g5, 0, none⟩ (.int .u64 b0)).setCell ⟨g5, 1, none⟩ (.int .u64 b1)) g6 _ _ := (x_7.far (by show g6 ≠ g5; omega) _).far (by show g6 ≠ g5; omega) _
            clear s0 s1 f0 f1
            obtain ⟨W8, hV⟩ : ∃ V, (World.setCell W7 ⟨g5, 0, none⟩ (.int .u64 b0)).setCell ⟨g5, 1, none⟩ (.int .u64 b1) = V := ⟨_, rfl⟩
            rw [hV]
            rw [hV] at E8 y_8 x_8
            clear hV
            refine hK.out _ _ (sK _ E8) (fun hHeld => ?_)
            clear hK K hHeld
            try simp only [Act.put, List.setIfInBounds_toArray, List.set_cons_zero, List.set_cons_succ]
            refine wpAnyH_done (by kernel_rfl) ?_ _
            exact ⟨rfl, g6, g5, rfl, E8, x_8, y_8⟩
          exact AllReadyH.nil
        exact AllReadyH.nil
      exact AllReadyH.nil
    exact AllReadyH.nil
  obtain ⟨rfl, g, h, rfl, EW, BG, BH⟩ := hq
  refine hK0 _ _ ?_
  clear hK0
  obtain ⟨k0, k1, k2, k3, k4, k5⟩ := sixW (A0.next EW)
  obtain ⟨p0, p1, _, _⟩ := BG.two
  obtain ⟨q0, q1, _, _⟩ := BH.two
  have BEx := AE.trans (EW.mono AE.size)
  obtain ⟨V, hV⟩ : ∃ V, W = V := ⟨_, rfl⟩
  rw [hV] at k0 k1 k2 k3 k4 k5 p0 p1 q0 q1 BEx
  rw [hV]
  have BE := Lib.hid BEx
  have HRV : Hid (RdZ V.drew 2 A n z) := Lib.hid (HR.out.kept BEx.drew)
  clear hV sK A0 A1 AE EW BG BH BEx hsz
  go_wp2_with fail
  go_region_held3 (fun W => W.cell? ⟨w.heap.size, 0, none⟩ = some (.int .i64 p) ∧ W.cell? ⟨w.heap.size, 1, none⟩ = some (.int .i64 d) ∧ W.cell? ⟨w.heap.size, 2, none⟩ = some (.int .i64 md) ∧ W.cell? ⟨w.heap.size, 3, none⟩ = some (.int .i64 l) ∧ W.cell? ⟨w.heap.size, 4, none⟩ = some (.bool wa) ∧ W.cell? ⟨w.heap.size, 5, none⟩ = some (.slice A n c) ∧ W.cell? ⟨g, 0, none⟩ = some (.int .u64 a0) ∧ W.cell? ⟨g, 1, none⟩ = some (.int .u64 a1) ∧ W.cell? ⟨h, 0, none⟩ = some (.int .u64 b0) ∧ W.cell? ⟨h, 1, none⟩ = some (.int .u64 b1))
    (go_keep)
    (first
      | (go_at_call 33; refine (RI.out (V.drew) HRV.out).mono ?_; rintro e v1 ⟨rfl, hb⟩; have nk00 := Lib.hid (bkeep (w := V.drew) hb k0); have nk10 := Lib.hid (bkeep (w := V.drew) hb k1); have nk20 := Lib.hid (bkeep (w := V.drew) hb k2); have nk30 := Lib.hid (bkeep (w := V.drew) hb k3); have nk40 := Lib.hid (bkeep (w := V.drew) hb k4); have nk50 := Lib.hid (bkeep (w := V.drew) hb k5); have np00 := Lib.hid (bkeep (w := V.drew) hb p0); have np10 := Lib.hid (bkeep (w := V.drew) hb p1); have nq00 := Lib.hid (bkeep (w := V.drew) hb q0); have nq10 := Lib.hid (bkeep (w := V.drew) hb q1); clear k0 k1 k2 k3 k4 k5 p0 p1 q0 q1; have k0 := nk00.out; have k1 := nk10.out; have k2 := nk20.out; have k3 := nk30.out; have k4 := nk40.out; have k5 := nk50.out; have p0 := np00.out; have p1 := np10.out; have q0 := nq00.out; have q1 := nq10.out; have HR1 := Lib.hid (HRV.out.kept hb); have BE1 := Lib.hid ((BE.out.drew).trans (hb.mono (BE.out.drew).size)); clear hb)
      | (go_at_call 34; refine (DR.out (v1) HR1.out).mono ?_; rintro e v2 ⟨LA, LC, rfl, hRR, hb⟩; have nk01 := Lib.hid (bkeep (w := v1) hb k0); have nk11 := Lib.hid (bkeep (w := v1) hb k1); have nk21 := Lib.hid (bkeep (w := v1) hb k2); have nk31 := Lib.hid (bkeep (w := v1) hb k3); have nk41 := Lib.hid (bkeep (w := v1) hb k4); have nk51 := Lib.hid (bkeep (w := v1) hb k5); have np01 := Lib.hid (bkeep (w := v1) hb p0); have np11 := Lib.hid (bkeep (w := v1) hb p1); have nq01 := Lib.hid (bkeep (w := v1) hb q0); have nq11 := Lib.hid (bkeep (w := v1) hb q1); clear k0 k1 k2 k3 k4 k5 p0 p1 q0 q1; have k0 := nk01.out; have k1 := nk11.out; have k2 := nk21.out; have k3 := nk31.out; have k4 := nk41.out; have k5 := nk51.out; have p0 := np01.out; have p1 := np11.out; have q0 := nq01.out; have q1 := nq11.out; have HR2 := Lib.hid (HR1.out.kept hb); have RR2 := Lib.hid hRR; clear hRR; have BE2 := Lib.hid (BE1.out.trans (hb.mono BE1.out.size)); clear hb)
      | (go_at_call_of 12 LC; refine (O1.out LA LC (v2) RR2.out).mono ?_; rintro e v3 ⟨rfl, hb⟩; have nk02 := Lib.hid (bkeep (w := v2) hb k0); have nk12 := Lib.hid (bkeep (w := v2) hb k1); have nk22 := Lib.hid (bkeep (w := v2) hb k2); have nk32 := Lib.hid (bkeep (w := v2) hb k3); have nk42 := Lib.hid (bkeep (w := v2) hb k4); have nk52 := Lib.hid (bkeep (w := v2) hb k5); have np02 := Lib.hid (bkeep (w := v2) hb p0); have np12 := Lib.hid (bkeep (w := v2) hb p1); have nq02 := Lib.hid (bkeep (w := v2) hb q0); have nq12 := Lib.hid (bkeep (w := v2) hb q1); clear k0 k1 k2 k3 k4 k5 p0 p1 q0 q1; have k0 := nk02.out; have k1 := nk12.out; have k2 := nk22.out; have k3 := nk32.out; have k4 := nk42.out; have k5 := nk52.out; have p0 := np02.out; have p1 := np12.out; have q0 := nq02.out; have q1 := nq12.out; have HR3 := Lib.hid (HR2.out.kept hb); have BE3 := Lib.hid (BE2.out.trans (hb.mono BE2.out.size)); clear hb)
      | (go_at_call 35; refine (FU.out (v3)).mono ?_; rintro e v4 ⟨rfl, hb⟩; have nk03 := Lib.hid (bkeep (w := v3) hb k0); have nk13 := Lib.hid (bkeep (w := v3) hb k1); have nk23 := Lib.hid (bkeep (w := v3) hb k2); have nk33 := Lib.hid (bkeep (w := v3) hb k3); have nk43 := Lib.hid (bkeep (w := v3) hb k4); have nk53 := Lib.hid (bkeep (w := v3) hb k5); have np03 := Lib.hid (bkeep (w := v3) hb p0); have np13 := Lib.hid (bkeep (w := v3) hb p1); have nq03 := Lib.hid (bkeep (w := v3) hb q0); have nq13 := Lib.hid (bkeep (w := v3) hb q1); clear k0 k1 k2 k3 k4 k5 p0 p1 q0 q1; have k0 := nk03.out; have k1 := nk13.out; have k2 := nk23.out; have k3 := nk33.out; have k4 := nk43.out; have k5 := nk53.out; have p0 := np03.out; have p1 := np13.out; have q0 := nq03.out; have q1 := nq13.out; have HR4 := Lib.hid (HR3.out.kept hb); have BE4 := Lib.hid (BE3.out.trans (hb.mono BE3.out.size)); clear hb)
      | (go_at_call 36; refine (DF.out (v4)).mono ?_; rintro e v5 ⟨rfl, hb⟩; have nk04 := Lib.hid (bkeep (w := v4) hb k0); have nk14 := Lib.hid (bkeep (w := v4) hb k1); have nk24 := Lib.hid (bkeep (w := v4) hb k2); have nk34 := Lib.hid (bkeep (w := v4) hb k3); have nk44 := Lib.hid (bkeep (w := v4) hb k4); have nk54 := Lib.hid (bkeep (w := v4) hb k5); have np04 := Lib.hid (bkeep (w := v4) hb p0); have np14 := Lib.hid (bkeep (w := v4) hb p1); have nq04 := Lib.hid (bkeep (w := v4) hb q0); have nq14 := Lib.hid (bkeep (w := v4) hb q1); clear k0 k1 k2 k3 k4 k5 p0 p1 q0 q1; have k0 := nk04.out; have k1 := nk14.out; have k2 := nk24.out; have k3 := nk34.out; have k4 := nk44.out; have k5 := nk54.out; have p0 := np04.out; have p1 := np14.out; have q0 := nq04.out; have q1 := nq14.out; have HR5 := Lib.hid (HR4.out.kept hb); have BE5 := Lib.hid (BE4.out.trans (hb.mono BE4.out.size)); clear hb)
      | (go_at_call 37; refine (LU.out (v5)).mono ?_; rintro e v6 ⟨rfl, hb⟩; have nk05 := Lib.hid (bkeep (w := v5) hb k0); have nk15 := Lib.hid (bkeep (w := v5) hb k1); have nk25 := Lib.hid (bkeep (w := v5) hb k2); have nk35 := Lib.hid (bkeep (w := v5) hb k3); have nk45 := Lib.hid (bkeep (w := v5) hb k4); have nk55 := Lib.hid (bkeep (w := v5) hb k5); have np05 := Lib.hid (bkeep (w := v5) hb p0); have np15 := Lib.hid (bkeep (w := v5) hb p1); have nq05 := Lib.hid (bkeep (w := v5) hb q0); have nq15 := Lib.hid (bkeep (w := v5) hb q1); clear k0 k1 k2 k3 k4 k5 p0 p1 q0 q1; have k0 := nk05.out; have k1 := nk15.out; have k2 := nk25.out; have k3 := nk35.out; have k4 := nk45.out; have k5 := nk55.out; have p0 := np05.out; have p1 := np15.out; have q0 := nq05.out; have q1 := nq15.out; have HR6 := Lib.hid (HR5.out.kept hb); have BE6 := Lib.hid (BE5.out.trans (hb.mono BE5.out.size)); clear hb)
      | (go_at_call 38; refine (DL.out (v6)).mono ?_; rintro e v7 ⟨LB, LD, rfl, hRR, hb⟩; have nk06 := Lib.hid (bkeep (w := v6) hb k0); have nk16 := Lib.hid (bkeep (w := v6) hb k1); have nk26 := Lib.hid (bkeep (w := v6) hb k2); have nk36 := Lib.hid (bkeep (w := v6) hb k3); have nk46 := Lib.hid (bkeep (w := v6) hb k4); have nk56 := Lib.hid (bkeep (w := v6) hb k5); have np06 := Lib.hid (bkeep (w := v6) hb p0); have np16 := Lib.hid (bkeep (w := v6) hb p1); have nq06 := Lib.hid (bkeep (w := v6) hb q0); have nq16 := Lib.hid (bkeep (w := v6) hb q1); clear k0 k1 k2 k3 k4 k5 p0 p1 q0 q1; have k0 := nk06.out; have k1 := nk16.out; have k2 := nk26.out; have k3 := nk36.out; have k4 := nk46.out; have k5 := nk56.out; have p0 := np06.out; have p1 := np16.out; have q0 := nq06.out; have q1 := nq16.out; have HR7 := Lib.hid (HR6.out.kept hb); have RR7 := Lib.hid hRR; clear hRR; have BE7 := Lib.hid (BE6.out.trans (hb.mono BE6.out.size)); clear hb)
      | (go_at_call_of 12 LD; refine (O2.out LB LD (v7) RR7.out).mono ?_; rintro e v8 ⟨rfl, hb⟩; have nk07 := Lib.hid (bkeep (w := v7) hb k0); have nk17 := Lib.hid (bkeep (w := v7) hb k1); have nk27 := Lib.hid (bkeep (w := v7) hb k2); have nk37 := Lib.hid (bkeep (w := v7) hb k3); have nk47 := Lib.hid (bkeep (w := v7) hb k4); have nk57 := Lib.hid (bkeep (w := v7) hb k5); have np07 := Lib.hid (bkeep (w := v7) hb p0); have np17 := Lib.hid (bkeep (w := v7) hb p1); have nq07 := Lib.hid (bkeep (w := v7) hb q0); have nq17 := Lib.hid (bkeep (w := v7) hb q1); clear k0 k1 k2 k3 k4 k5 p0 p1 q0 q1; have k0 := nk07.out; have k1 := nk17.out; have k2 := nk27.out; have k3 := nk37.out; have k4 := nk47.out; have k5 := nk57.out; have p0 := np07.out; have p1 := np17.out; have q0 := nq07.out; have q1 := nq17.out; have HR8 := Lib.hid (HR7.out.kept hb); have BE8 := Lib.hid (BE7.out.trans (hb.mono BE7.out.size)); clear hb)
      | (go_at_call 39; refine (WO.out (v8) HR8.out).mono ?_; rintro e v9 ⟨rfl, hb⟩; have nk08 := Lib.hid (bkeep (w := v8) hb k0); have nk18 := Lib.hid (bkeep (w := v8) hb k1); have nk28 := Lib.hid (bkeep (w := v8) hb k2); have nk38 := Lib.hid (bkeep (w := v8) hb k3); have nk48 := Lib.hid (bkeep (w := v8) hb k4); have nk58 := Lib.hid (bkeep (w := v8) hb k5); have np08 := Lib.hid (bkeep (w := v8) hb p0); have np18 := Lib.hid (bkeep (w := v8) hb p1); have nq08 := Lib.hid (bkeep (w := v8) hb q0); have nq18 := Lib.hid (bkeep (w := v8) hb q1); clear k0 k1 k2 k3 k4 k5 p0 p1 q0 q1; have k0 := nk08.out; have k1 := nk18.out; have k2 := nk28.out; have k3 := nk38.out; have k4 := nk48.out; have k5 := nk58.out; have p0 := np08.out; have p1 := np18.out; have q0 := nq08.out; have q1 := nq18.out; have HR9 := Lib.hid (HR8.out.kept hb); have BE9 := Lib.hid (BE8.out.trans (hb.mono BE8.out.size)); clear hb)
      | (go_at_call 40; refine (DW.out (v9) HR9.out).mono ?_; rintro e v10 ⟨rfl, hb⟩; have nk09 := Lib.hid (bkeep (w := v9) hb k0); have nk19 := Lib.hid (bkeep (w := v9) hb k1); have nk29 := Lib.hid (bkeep (w := v9) hb k2); have nk39 := Lib.hid (bkeep (w := v9) hb k3); have nk49 := Lib.hid (bkeep (w := v9) hb k4); have nk59 := Lib.hid (bkeep (w := v9) hb k5); have np09 := Lib.hid (bkeep (w := v9) hb p0); have np19 := Lib.hid (bkeep (w := v9) hb p1); have nq09 := Lib.hid (bkeep (w := v9) hb q0); have nq19 := Lib.hid (bkeep (w := v9) hb q1); clear k0 k1 k2 k3 k4 k5 p0 p1 q0 q1; have k0 := nk09.out; have k1 := nk19.out; have k2 := nk29.out; have k3 := nk39.out; have k4 := nk49.out; have k5 := nk59.out; have p0 := np09.out; have p1 := np19.out; have q0 := nq09.out; have q1 := nq19.out; have BE10 := Lib.hid (BE9.out.trans (hb.mono BE9.out.size)); clear hb)
      | (go_at_call 41; refine (walive (v10) (HT.out.kept BE10.out)).mono ?_; rintro e v11 ⟨rfl, hb⟩; have nk010 := Lib.hid (bkeep (w := v10) hb k0); have nk110 := Lib.hid (bkeep (w := v10) hb k1); have nk210 := Lib.hid (bkeep (w := v10) hb k2); have nk310 := Lib.hid (bkeep (w := v10) hb k3); have nk410 := Lib.hid (bkeep (w := v10) hb k4); have nk510 := Lib.hid (bkeep (w := v10) hb k5); have np010 := Lib.hid (bkeep (w := v10) hb p0); have np110 := Lib.hid (bkeep (w := v10) hb p1); have nq010 := Lib.hid (bkeep (w := v10) hb q0); have nq110 := Lib.hid (bkeep (w := v10) hb q1); clear k0 k1 k2 k3 k4 k5 p0 p1 q0 q1; have k0 := nk010.out; have k1 := nk110.out; have k2 := nk210.out; have k3 := nk310.out; have k4 := nk410.out; have k5 := nk510.out; have p0 := np010.out; have p1 := np110.out; have q0 := nq010.out; have q1 := nq110.out; have BE11 := Lib.hid (BE10.out.trans (hb.mono BE10.out.size)); clear hb))
  go_wp2_with fail
  go_ret
  exact ⟨rfl, BE11.out⟩
theorem walk {p d md l : Int} {wa : Bool} {A : Option Addr} {n c : Nat} {z : Nat → Nat → Int} {a0 a1 b0 b1 cap : Int} {w : World} (_ : (Lit.int .i64 p).wf = true) (_ : (Lit.int .i64 d).wf = true) (_ : (Lit.int .i64 md).wf = true) (_ : (Lit.int .i64 l).wf = true) (hl : n ≤ c) (hm : c ≤ maxLen) (hr : RdZ w 2 A n z) (_ : A = none → c = 0) (_ : (Lit.int .i64 cap).wf = true) (w0 : (Lit.int .u64 a0).wf = true) (w1 : (Lit.int .u64 a1).wf = true) (w2 : (Lit.int .u64 b0).wf = true) (w3 : (Lit.int .u64 b1).wf = true) (hL : laidMetH Tryd.prog Rows.wantTellsRow.laid w) :
    Calls Tryd.prog 6 #[.agg #[.int .i64 p, .int .i64 d, .int .i64 md, .int .i64 l, .bool wa, .slice A n c], .int .i64 cap, .agg #[.int .u64 a0, .int .u64 a1, .int .u64 b0, .int .u64 b1]] w fun e w' => e = .returned (.bool true) ∧ Below w.heap.size w w' := by
  have u : ∀ {q : Int}, (Lit.int .u64 q).wf = true → 0 ≤ q ∧ q ≤ 18446744073709551615 := fun h => by simpa [Lit.wf, IntKind.min, IntKind.max, IntKind.signed, IntKind.bits] using h
  obtain ⟨x0, rfl⟩ := Int.eq_ofNat_of_zero_le (u w0).1
  obtain ⟨x1, rfl⟩ := Int.eq_ofNat_of_zero_le (u w1).1
  obtain ⟨y0, rfl⟩ := Int.eq_ofNat_of_zero_le (u w2).1
  obtain ⟨y1, rfl⟩ := Int.eq_ofNat_of_zero_le (u w3).1
  have h0 := (u w0).2
  have h1 := (u w1).2
  have h2 := (u w2).2
  have h3 := (u w3).2
  have := walk_f p d md l wa A n c z (mem x0 x1) (mem y0 y1) cap w (tz_of_laid hL) hr (Nat.le_trans hl hm)
  rw [(word_mem x0 x1 (by omega) (by omega)).1, (word_mem x0 x1 (by omega) (by omega)).2, (word_mem y0 y1 (by omega) (by omega)).1, (word_mem y0 y1 (by omega) (by omega)).2] at this
  exact this

end Go.Proofs.YtdcollehdhkngaaDoor.wantTells
