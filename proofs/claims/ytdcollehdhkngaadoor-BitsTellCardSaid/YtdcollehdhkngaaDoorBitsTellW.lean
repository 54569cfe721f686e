/- The walk of BitsTell: it answers true for every input, and leaves all old blocks as they were. No condition but the laid tables, which are tied to the text. -/
import Derived.Test.YtdcollehdhkngaaDoorRows
import Derived.Test.YtdcollehdhkngaaDoorRowKit
import Derived.Test.YtdcollehdhkngaaDoorRowS
import Derived.Test.YtdcollehdhkngaaDoorBlocks
import Derived.Test.YtdcollehdhkngaaDoorSlicesEq
import Derived.Test.YtdcollehdhkngaaDoorRowL
import Derived.Test.YtdcollehdhkngaaDoorMakeI
import Derived.Test.YtdcollehdhkngaaDoorBitsMath
import Derived.Test.YtdcollehdhkngaaDoorBitsA2
import Derived.Test.YtdcollehdhkngaaDoorBitsD
import Derived.Test.YtdcollehdhkngaaDoorBitsE
import Derived.Test.YtdcollehdhkngaaDoorBitsG
import Derived.Test.YtdcollehdhkngaaDoorBitsH
import Derived.Test.YtdcollehdhkngaaDoorBitsJ
import Derived.Test.YtdcollehdhkngaaDoorBitsK
import Derived.Test.YtdcollehdhkngaaDoorBitsL
import Derived.Test.YtdcollehdhkngaaDoorBitsN
import Derived.Test.YtdcollehdhkngaaDoorBitsP
import Derived.Test.YtdcollehdhkngaaDoorBitsR
import Derived.Test.YtdcollehdhkngaaDoorBitsS
import Derived.Test.YtdcollehdhkngaaDoorBitsT
import Derived.WalkKit
import Derived.ProofKit
import Derived.OpenShut
import Derived.Deep.QuietTactic
import Derived.BigQuiet
import Derived.Lib.SmallJoins
import Derived.Lib.Hide
import Derived.WalkSpells
import Derived.WalkLawsBesides
import Derived.Lib.TrailingZeros
import Derived.Lib.LaidTab
import Derived.Lib.LaidU8
import Derived.Deep.RegionHeld3
import Derived.IntWalk
namespace Go.Proofs.YtdcollehdhkngaaDoor.bitsTell
open Go.ChangeShapes Go.WideShapes Go.ChangeAt Go.RowKit Go.Joins
set_option linter.unusedSimpArgs false
set_option linter.unusedVariables false

theorem bz_gT : Tryd.prog.globalNamed "math/bits.deBruijn64tab" = some 0 := by kernel_rfl
theorem bz_gTType : (Tryd.prog.globals[0]?).map (·.type) = some 111 := by kernel_rfl
theorem tz_of_laid {w : World} (h0 : laidMetH Tryd.prog Rows.bitsTellRow.laid w) : TzC w := by
  have h : laidMet Tryd.prog Rows.bitsTellRow.laid w := h0
  obtain ⟨g', t', cs, fuel, p, hg', ht', hvar, hd⟩ := Lib.laidMet.reads h (.head _)
  obtain rfl := Option.some.inj (bz_gT.symm.trans hg')
  obtain rfl := Option.some.inj (bz_gTType.symm.trans ht')
  have e := Lib.cells_of_tab (zs := Lib.deBruijn64tab.map Int.ofNat) Tryd.underlying111 Tryd.underlying5 (by kernel_rfl) (by kernel_rfl) hd
  unfold World.var? at hvar
  rw [bz_gT] at hvar
  simp only [Option.bind_some] at hvar
  split at hvar
  · rename_i cs' t fr hg
    cases hvar
    show w.cell? _ = _
    rw [cell_of_row w _ 63 cs t fr hg, ← Array.getElem?_toList, e]
    rfl
  · cases hvar
theorem Below.alloc_self (w : World) (o : Obj) : Below w.heap.size w (w.alloc o) := (Below.refl w.heap.size w).alloc (Nat.le_refl _) o
theorem rd_one {z : Int} (hz : (Lit.int .i64 z).wf = true) (w : World) : RdI (w.alloc (.cells #[.int .i64 z] 3)) .i64 (some ⟨w.heap.size, 0, none⟩) [z] := rdI_mk fun i hi => by
  have h0 := World.cell?_alloc_mark w #[.int .i64 z] 3 (0, 0) 0
  rcases (show i = 0 by simp at hi; omega) with rfl
  exact ⟨h0, hz⟩
theorem both_with (F : Nat → Bool) (z : Int) : setV (bothF F (ofF [z] 1) 1) = setV (withF F z) := setV_congr fun n _ => by
  simp [bothF, ofF, withF, zat]
theorem both_wout (F : Nat → Bool) (z : Int) : setV (bothF F (ofF [z] 1) 2) = setV (woutF F z) := setV_congr fun n _ => by
  simp [bothF, ofF, withF, woutF, zat]
set_option maxRecDepth 100000 in
set_option maxHeartbeats 4000000 in
theorem walk_f (F : Nat → Bool) (z : Int) (hz : (Lit.int .i64 z).wf = true) (A : Option Addr) (c : Nat) (zs : List Int) (w : World) (hT : TzC w) (hr : RdI w .i64 A zs) (hm : zs.length ≤ maxLen) :
    Calls Tryd.prog 3 #[setV F, .int .i64 z, .slice A zs.length c] w fun e w' => e = .returned (.bool true) ∧ Below w.heap.size w w' := by
  unfold maxLen at hm
  obtain ⟨m, hmm⟩ : ∃ m, zs.length = m := ⟨_, rfl⟩
  by_cases h200 : zs.length ≤ 200
  case neg =>
    rw [hmm] at h200 hm ⊢
    clear hmm hr
    have g : (200 : Int) < m := by omega
    unfold setV
    go_enter Tryd.func3, Tryd.ntmps3
    go_wp2_with fail
    go_ret
    exact ⟨rfl, (Below.refl w.heap.size w).alloc (Nat.le_refl _) _⟩
  have HT := Lib.hid hT
  have HR := Lib.hid hr
  have PH := fun w => has_any F z w
  have DH := fun w => rhas_any F z w
  have PW := fun w => with_any F z w
  have PO := fun w => wout_any F z w
  have B1 := fun w => both_any F (ofF [z] 1) 1 w
  have B2 := fun w => both_any F (ofF [z] 1) 2 w
  have PF := fun w hr => of_any A c zs w hr (by omega)
  have DF := fun w hr => rof_any A c zs w hr (by omega)
  have PC := fun w => count_any F w
  have DI := fun w => items_any F w
  have DO := fun (g : Nat) w hr => rof_any (some ⟨g, 0, none⟩) 1 [z] w hr (by simp)
  have IL := itL_len F 128
  simp only [both_with, both_wout] at B1 B2
  rw [show ([z] : List Int).length = 1 from rfl] at DO
  unfold setV at *
  obtain ⟨x, hX⟩ : ∃ x, wordX F = x := ⟨_, rfl⟩
  obtain ⟨y, hY⟩ : ∃ y, wordY F = y := ⟨_, rfl⟩
  obtain ⟨p0, hp0⟩ : ∃ x, wordX (withF F z) = x := ⟨_, rfl⟩
  obtain ⟨p1, hp1⟩ : ∃ x, wordY (withF F z) = x := ⟨_, rfl⟩
  obtain ⟨q0, hq0⟩ : ∃ x, wordX (woutF F z) = x := ⟨_, rfl⟩
  obtain ⟨q1, hq1⟩ : ∃ x, wordY (woutF F z) = x := ⟨_, rfl⟩
  obtain ⟨o0, ho0⟩ : ∃ x, wordX (ofF [z] 1) = x := ⟨_, rfl⟩
  obtain ⟨o1, ho1⟩ : ∃ x, wordY (ofF [z] 1) = x := ⟨_, rfl⟩
  obtain ⟨r0, hr0⟩ : ∃ x, wordX (ofF zs zs.length) = x := ⟨_, rfl⟩
  obtain ⟨r1, hr1⟩ : ∃ x, wordY (ofF zs zs.length) = x := ⟨_, rfl⟩
  obtain ⟨bh, hhb⟩ : ∃ b, hasF F z = b := ⟨_, rfl⟩
  obtain ⟨N, hN⟩ : ∃ N, (itL F 128).length = N := ⟨_, rfl⟩
  simp only [hX, hY, hp0, hp1, hq0, hq1, ho0, ho1, hr0, hr1, hhb, hN] at PH DH PW PO DO B1 B2 PF DF PC DI IL ⊢
  rw [hmm] at PF DF h200 hm ⊢
  replace PH := Lib.hid PH
  replace DH := Lib.hid DH
  replace PW := Lib.hid PW
  replace PO := Lib.hid PO
  replace DO := Lib.hid DO
  replace B1 := Lib.hid B1
  replace B2 := Lib.hid B2
  replace PF := Lib.hid PF
  replace DF := Lib.hid DF
  replace PC := Lib.hid PC
  replace DI := Lib.hid DI
  have EQ0 := set_same p0 p1
  have EQ1 := set_same q0 q1
  have EQ2 := set_same r0 r1
  have g200 : ¬ ((200 : Int) < m) := by omega
  have ILI : (N : Int) ≤ 128 := by omega
  have ILN : (0 : Int) ≤ N := by omega
  clear hX hY hp0 hp1 hq0 hq1 ho0 ho1 hr0 hr1 hhb hN hmm hr hT h200 IL
  go_enter Tryd.func3, Tryd.ntmps3
  go_wp2_with fail
  rename_i hK0
  have A0 := Blk.new w #[(.int .u64 x : Value), .int .u64 y] 24
  have AE := (Below.refl w.heap.size w).alloc (Nat.le_refl _) (.cells #[(.int .u64 x : Value), .int .u64 y] 24)
  obtain ⟨X0, hX0⟩ : ∃ X, w.alloc (.cells #[(.int .u64 x : Value), .int .u64 y] 24) = X := ⟨_, rfl⟩
  rw [hX0] at A0 AE ⊢
  clear hX0
  have sK0 : ∀ W, Below X0.heap.size X0 W → W.cell? ⟨w.heap.size, 0, none⟩ = some (.int .u64 x) ∧ W.cell? ⟨w.heap.size, 1, none⟩ = some (.int .u64 y) :=
    fun W hb => ⟨bkeep hb A0.two.1, bkeep hb A0.two.2.1⟩
  refine Code.wp_mono (Q := fun e a W => e = .normal ∧ ∃ g h, a = { tmps := #[.agg #[.int .u64 x, .int .u64 y], .int .i64 z, .slice A m c, .pointer (some ⟨w.heap.size, 0, none⟩), undef, undef, .bool false, .pointer (some ⟨g, 0, none⟩), undef, .slice A m c, .int .i64 m, .bool false, .agg #[.int .u64 x, .int .u64 y], .int .i64 z, .slice (some ⟨h, 0, none⟩) 1 1, .agg #[.int .u64 o0, .int .u64 o1], .agg #[.int .u64 p0, .int .u64 p1], undef, undef, undef, undef, undef, undef, undef, undef, undef, undef, undef, undef, undef, undef, undef, undef, undef, undef, undef, undef, undef, undef, undef, undef, undef, undef, undef, undef, undef, undef, undef, undef, undef, undef, undef, undef, undef, undef, undef, undef, undef, undef, undef, undef], defers := [] } ∧ Below X0.heap.size X0 W ∧ Blk W g 24 #[.int .u64 p0, .int .u64 p1]) (fun e a W hq => ?_) ?_
  case refine_2 =>
    refine wp_region_held_drew (S := fun W => W.cell? ⟨w.heap.size, 0, none⟩ = some (.int .u64 x) ∧ W.cell? ⟨w.heap.size, 1, none⟩ = some (.int .u64 y)) (by kernel_rfl) (sK0 _ (Below.refl _ _).drew) (fun hHeld => ?_)
    clear hHeld
    have E0 : Below X0.heap.size X0 X0.drew := (Below.refl _ _).drew
    obtain ⟨W0, hV⟩ : ∃ V, X0.drew = V := ⟨_, rfl⟩
    rw [hV] at E0 ⊢
    clear hV
    refine wpAnyH_take (i := 0) (v := .agg #[.int .u64 x, .int .u64 y]) rfl (by kernel_rfl) (by kernel_rfl) (by kernel_rfl) (fun _ _ _ h => nomatch h.1) (Or.inl ⟨by rfl, ?_⟩) (sK0 _ E0) ?_
    · intro w hSw; (try dsimp only at hSw); go_simp
    simp only [Act.put, List.setIfInBounds_toArray, List.set_cons_zero, List.set_cons_succ]
    refine wpAnyH_take (i := 1) (v := .int .i64 z) rfl (by kernel_rfl) (by kernel_rfl) (by kernel_rfl) (fun _ _ _ h => nomatch h.1) (Or.inl ⟨by rfl, ?_⟩) (sK0 _ E0) ?_
    · intro w hSw; (try dsimp only at hSw); go_simp
    simp only [Act.put, List.setIfInBounds_toArray, List.set_cons_zero, List.set_cons_succ]
    refine wpAnyH_ready (rs := [2, 5]) (by kernel_rfl) (by simp) ?_
    refine AllReadyH.cons rfl (fun K hK => ?_) ?_
    · go_simp
      have E1 := E0.alloc E0.size (.cells #[.int .i64 z] 3)
      have b_1 : Blk (World.alloc W0 (.cells #[.int .i64 z] 3)) W0.heap.size 3 #[.int .i64 z] := Blk.new _ _ _
      have ge_b := E0.size
      have R_1 := rd_one hz W0
      obtain ⟨W1, hV⟩ : ∃ V, World.alloc W0 (.cells #[.int .i64 z] 3) = V := ⟨_, rfl⟩
      obtain ⟨g1, hg⟩ : ∃ g, W0.heap.size = g := ⟨_, rfl⟩
      rw [hV, hg]
      simp only [hV, hg] at E1 b_1 ge_b R_1
      clear hV hg
      refine hK.out _ _ (sK0 _ E1) (fun hHeld => ?_)
      clear hK K hHeld
      try simp only [Act.put, List.setIfInBounds_toArray, List.set_cons_zero, List.set_cons_succ]
      refine wpAnyH_ready (rs := [3, 5]) (by kernel_rfl) (by simp) ?_
      refine AllReadyH.cons rfl (fun K hK => ?_) ?_
      · go_simp
        refine (DO.out _ _ R_1).mono ?_
        rintro e W2 ⟨rfl, hb⟩
        have E2 := E1.trans (hb.mono E1.size)
        have b_2 := b_1.next hb
        have R_2 := R_1.kept hb
        clear hb
        go_wp2_with fail
        refine hK.out _ _ (sK0 _ E2) (fun hHeld => ?_)
        clear hK K hHeld
        try simp only [Act.put, List.setIfInBounds_toArray, List.set_cons_zero, List.set_cons_succ]
        refine wpAnyH_ready (rs := [4, 5]) (by kernel_rfl) (by simp) ?_
        refine AllReadyH.cons rfl (fun K hK => ?_) ?_
        · go_simp
          refine (B1.out _).mono ?_
          rintro e W3 ⟨rfl, hb⟩
          have E3 := E2.trans (hb.mono E2.size)
          have b_3 := b_2.next hb
          have R_3 := R_2.kept hb
          clear hb
          go_wp2_with fail
          refine hK.out _ _ (sK0 _ E3) (fun hHeld => ?_)
          clear hK K hHeld
          try simp only [Act.put, List.setIfInBounds_toArray, List.set_cons_zero, List.set_cons_succ]
          refine wpAnyH_ready (rs := [5]) (by kernel_rfl) (by simp) ?_
          refine AllReadyH.cons rfl (fun K hK => ?_) ?_
          · go_simp
            have E4 := E3.alloc E3.size (.cells #[.int .u64 0, .int .u64 0] 24)
            have lt_b_4 := b_3.lt
            have b_4 := b_3.alloc (.cells #[.int .u64 0, .int .u64 0] 24)
            have R_4 := R_3.kept (Below.alloc_self W3 (.cells #[.int .u64 0, .int .u64 0] 24))
            have s_4 : Blk (World.alloc W3 (.cells #[.int .u64 0, .int .u64 0] 24)) W3.heap.size 24 #[.int .u64 0, .int .u64 0] := Blk.new _ _ _
            have ge_s := E3.size
            obtain ⟨W4, hV⟩ : ∃ V, World.alloc W3 (.cells #[.int .u64 0, .int .u64 0] 24) = V := ⟨_, rfl⟩
            obtain ⟨g4, hg⟩ : ∃ g, W3.heap.size = g := ⟨_, rfl⟩
            rw [hV, hg]
            simp only [hV, hg] at E4 b_4 lt_b_4 R_4 s_4 ge_s
            clear hV hg
            refine hK.out _ _ (sK0 _ E4) (fun hHeld => ?_)
            clear hK K hHeld
            try simp only [Act.put, List.setIfInBounds_toArray, List.set_cons_zero, List.set_cons_succ]
            refine wpAnyH_ready (rs := [6]) (by kernel_rfl) (by simp) ?_
            refine AllReadyH.cons rfl (fun K hK => ?_) ?_
            · obtain ⟨s0, s1, f0, f1⟩ := s_4.two
              go_simp
              have E5 : Below _ _ ((World.setCell W4 ⟨g4, 0, none⟩ (.int .u64 p0)).setCell ⟨g4, 1, none⟩ (.int .u64 p1)) := (E4.setCell ge_s _).setCell ge_s _
              have b_5 : Blk ((World.setCell W4 ⟨g4, 0, none⟩ (.int .u64 p0)).setCell ⟨g4, 1, none⟩ (.int .u64 p1)) g1 _ _ := (b_4.far (by show g1 ≠ g4; omega) _).far (by show g1 ≠ g4; omega) _
              have s_5 : Blk ((World.setCell W4 ⟨g4, 0, none⟩ (.int .u64 p0)).setCell ⟨g4, 1, none⟩ (.int .u64 p1)) g4 _ _ := s_4.put2 _ _
              clear s0 s1 f0 f1
              obtain ⟨W5, hV⟩ : ∃ V, (World.setCell W4 ⟨g4, 0, none⟩ (.int .u64 p0)).setCell ⟨g4, 1, none⟩ (.int .u64 p1) = V := ⟨_, rfl⟩
              rw [hV]
              rw [hV] at E5 b_5 s_5
              clear hV
              refine hK.out _ _ (sK0 _ E5) (fun hHeld => ?_)
              clear hK K hHeld
              try simp only [Act.put, List.setIfInBounds_toArray, List.set_cons_zero, List.set_cons_succ]
              refine wpAnyH_done (by kernel_rfl) ?_ _
              exact ⟨rfl, g4, g1, rfl, E5, s_5⟩
            exact AllReadyH.nil
          exact AllReadyH.nil
        refine AllReadyH.cons rfl (fun K hK => ?_) ?_
        · go_simp
          have E6 := E2.alloc E2.size (.cells #[.int .u64 0, .int .u64 0] 24)
          have lt_b_6 := b_2.lt
          have b_6 := b_2.alloc (.cells #[.int .u64 0, .int .u64 0] 24)
          have R_6 := R_2.kept (Below.alloc_self W2 (.cells #[.int .u64 0, .int .u64 0] 24))
          have s_6 : Blk (World.alloc W2 (.cells #[.int .u64 0, .int .u64 0] 24)) W2.heap.size 24 #[.int .u64 0, .int .u64 0] := Blk.new _ _ _
          have ge_s := E2.size
          obtain ⟨W6, hV⟩ : ∃ V, World.alloc W2 (.cells #[.int .u64 0, .int .u64 0] 24) = V := ⟨_, rfl⟩
          obtain ⟨g6, hg⟩ : ∃ g, W2.heap.size = g := ⟨_, rfl⟩
          rw [hV, hg]
          simp only [hV, hg] at E6 b_6 lt_b_6 R_6 s_6 ge_s
          clear hV hg
          refine hK.out _ _ (sK0 _ E6) (fun hHeld => ?_)
          clear hK K hHeld
          try simp only [Act.put, List.setIfInBounds_toArray, List.set_cons_zero, List.set_cons_succ]
          refine wpAnyH_ready (rs := [4]) (by kernel_rfl) (by simp) ?_
          refine AllReadyH.cons rfl (fun K hK => ?_) ?_
          · go_simp
            refine (B1.out _).mono ?_
            rintro e W7 ⟨rfl, hb⟩
            have E7 := E6.trans (hb.mono E6.size)
            have b_7 := b_6.next hb
            have s_7 := s_6.next hb
            have R_7 := R_6.kept hb
            clear hb
            go_wp2_with fail
            refine hK.out _ _ (sK0 _ E7) (fun hHeld => ?_)
            clear hK K hHeld
            try simp only [Act.put, List.setIfInBounds_toArray, List.set_cons_zero, List.set_cons_succ]
            refine wpAnyH_ready (rs := [6]) (by kernel_rfl) (by simp) ?_
            refine AllReadyH.cons rfl (fun K hK => ?_) ?_
            · obtain ⟨s0, s1, f0, f1⟩ := s_7.two
              go_simp
              have E8 : Below _ _ ((World.setCell W7 ⟨g6, 0, none⟩ (.int .u64 p0)).setCell ⟨g6, 1, none⟩ (.int .u64 p1)) := (E7.setCell ge_s _).setCell ge_s _
              have b_8 : Blk ((World.setCell W7 ⟨g6, 0, none⟩ (.int .u64 p0)).setCell ⟨g6, 1, none⟩ (.int .u64 p1)) g1 _ _ := (b_7.far (by show g1 ≠ g6; omega) _).far (by show g1 ≠ g6; omega) _
              have s_8 : Blk ((World.setCell W7 ⟨g6, 0, none⟩ (.int .u64 p0)).setCell ⟨g6, 1, none⟩ (.int .u64 p1)) g6 _ _ := s_7.put2 _ _
              clear s0 s1 f0 f1
              obtain ⟨W8, hV⟩ : ∃ V, (World.setCell W7 ⟨g6, 0, none⟩ (.int .u64 p0)).setCell ⟨g6, 1, none⟩ (.int .u64 p1) = V := ⟨_, rfl⟩
              rw [hV]
              rw [hV] at E8 b_8 s_8
              clear hV
              refine hK.out _ _ (sK0 _ E8) (fun hHeld => ?_)
              clear hK K hHeld
              try simp only [Act.put, List.setIfInBounds_toArray, List.set_cons_zero, List.set_cons_succ]
              refine wpAnyH_done (by kernel_rfl) ?_ _
              exact ⟨rfl, g6, g1, rfl, E8, s_8⟩
            exact AllReadyH.nil
          exact AllReadyH.nil
        exact AllReadyH.nil
      refine AllReadyH.cons rfl (fun K hK => ?_) ?_
      · go_simp
        have E9 := E1.alloc E1.size (.cells #[.int .u64 0, .int .u64 0] 24)
        have lt_b_9 := b_1.lt
        have b_9 := b_1.alloc (.cells #[.int .u64 0, .int .u64 0] 24)
        have R_9 := R_1.kept (Below.alloc_self W1 (.cells #[.int .u64 0, .int .u64 0] 24))
        have s_9 : Blk (World.alloc W1 (.cells #[.int .u64 0, .int .u64 0] 24)) W1.heap.size 24 #[.int .u64 0, .int .u64 0] := Blk.new _ _ _
        have ge_s := E1.size
        obtain ⟨W9, hV⟩ : ∃ V, World.alloc W1 (.cells #[.int .u64 0, .int .u64 0] 24) = V := ⟨_, rfl⟩
        obtain ⟨g9, hg⟩ : ∃ g, W1.heap.size = g := ⟨_, rfl⟩
        rw [hV, hg]
        simp only [hV, hg] at E9 b_9 lt_b_9 R_9 s_9 ge_s
        clear hV hg
        refine hK.out _ _ (sK0 _ E9) (fun hHeld => ?_)
        clear hK K hHeld
        try simp only [Act.put, List.setIfInBounds_toArray, List.set_cons_zero, List.set_cons_succ]
        refine wpAnyH_ready (rs := [3]) (by kernel_rfl) (by simp) ?_
        refine AllReadyH.cons rfl (fun K hK => ?_) ?_
        · go_simp
          refine (DO.out _ _ R_9).mono ?_
          rintro e W10 ⟨rfl, hb⟩
          have E10 := E9.trans (hb.mono E9.size)
          have b_10 := b_9.next hb
          have s_10 := s_9.next hb
          have R_10 := R_9.kept hb
          clear hb
          go_wp2_with fail
          refine hK.out _ _ (sK0 _ E10) (fun hHeld => ?_)
          clear hK K hHeld
          try simp only [Act.put, List.setIfInBounds_toArray, List.set_cons_zero, List.set_cons_succ]
          refine wpAnyH_ready (rs := [4]) (by kernel_rfl) (by simp) ?_
          refine AllReadyH.cons rfl (fun K hK => ?_) ?_
          · go_simp
            refine (B1.out _).mono ?_
            rintro e W11 ⟨rfl, hb⟩
            have E11 := E10.trans (hb.mono E10.size)
            have b_11 := b_10.next hb
            have s_11 := s_10.next hb
            have R_11 := R_10.kept hb
            clear hb
            go_wp2_with fail
            refine hK.out _ _ (sK0 _ E11) (fun hHeld => ?_)
            clear hK K hHeld
            try simp only [Act.put, List.setIfInBounds_toArray, List.set_cons_zero, List.set_cons_succ]
            refine wpAnyH_ready (rs := [6]) (by kernel_rfl) (by simp) ?_
            refine AllReadyH.cons rfl (fun K hK => ?_) ?_
            · obtain ⟨s0, s1, f0, f1⟩ := s_11.two
              go_simp
              have E12 : Below _ _ ((World.setCell W11 ⟨g9, 0, none⟩ (.int .u64 p0)).setCell ⟨g9, 1, none⟩ (.int .u64 p1)) := (E11.setCell ge_s _).setCell ge_s _
              have b_12 : Blk ((World.setCell W11 ⟨g9, 0, none⟩ (.int .u64 p0)).setCell ⟨g9, 1, none⟩ (.int .u64 p1)) g1 _ _ := (b_11.far (by show g1 ≠ g9; omega) _).far (by show g1 ≠ g9; omega) _
              have s_12 : Blk ((World.setCell W11 ⟨g9, 0, none⟩ (.int .u64 p0)).setCell ⟨g9, 1, none⟩ (.int .u64 p1)) g9 _ _ := s_11.put2 _ _
              clear s0 s1 f0 f1
              obtain ⟨W12, hV⟩ : ∃ V, (World.setCell W11 ⟨g9, 0, none⟩ (.int .u64 p0)).setCell ⟨g9, 1, none⟩ (.int .u64 p1) = V := ⟨_, rfl⟩
              rw [hV]
              rw [hV] at E12 b_12 s_12
              clear hV
              refine hK.out _ _ (sK0 _ E12) (fun hHeld => ?_)
              clear hK K hHeld
              try simp only [Act.put, List.setIfInBounds_toArray, List.set_cons_zero, List.set_cons_succ]
              refine wpAnyH_done (by kernel_rfl) ?_ _
              exact ⟨rfl, g9, g1, rfl, E12, s_12⟩
            exact AllReadyH.nil
          exact AllReadyH.nil
        exact AllReadyH.nil
      exact AllReadyH.nil
    refine AllReadyH.cons rfl (fun K hK => ?_) ?_
    · go_simp
      have E13 := E0.alloc E0.size (.cells #[.int .u64 0, .int .u64 0] 24)
      have s_13 : Blk (World.alloc W0 (.cells #[.int .u64 0, .int .u64 0] 24)) W0.heap.size 24 #[.int .u64 0, .int .u64 0] := Blk.new _ _ _
      have ge_s := E0.size
      obtain ⟨W13, hV⟩ : ∃ V, World.alloc W0 (.cells #[.int .u64 0, .int .u64 0] 24) = V := ⟨_, rfl⟩
      obtain ⟨g13, hg⟩ : ∃ g, W0.heap.size = g := ⟨_, rfl⟩
      rw [hV, hg]
      simp only [hV, hg] at E13 s_13 ge_s
      clear hV hg
      refine hK.out _ _ (sK0 _ E13) (fun hHeld => ?_)
      clear hK K hHeld
      try simp only [Act.put, List.setIfInBounds_toArray, List.set_cons_zero, List.set_cons_succ]
      refine wpAnyH_ready (rs := [2]) (by kernel_rfl) (by simp) ?_
      refine AllReadyH.cons rfl (fun K hK => ?_) ?_
      · go_simp
        have E14 := E13.alloc E13.size (.cells #[.int .i64 z] 3)
        have lt_s_14 := s_13.lt
        have s_14 := s_13.alloc (.cells #[.int .i64 z] 3)
        have b_14 : Blk (World.alloc W13 (.cells #[.int .i64 z] 3)) W13.heap.size 3 #[.int .i64 z] := Blk.new _ _ _
        have ge_b := E13.size
        have R_14 := rd_one hz W13
        obtain ⟨W14, hV⟩ : ∃ V, World.alloc W13 (.cells #[.int .i64 z] 3) = V := ⟨_, rfl⟩
        obtain ⟨g14, hg⟩ : ∃ g, W13.heap.size = g := ⟨_, rfl⟩
        rw [hV, hg]
        simp only [hV, hg] at E14 s_14 lt_s_14 b_14 ge_b R_14
        clear hV hg
        refine hK.out _ _ (sK0 _ E14) (fun hHeld => ?_)
        clear hK K hHeld
        try simp only [Act.put, List.setIfInBounds_toArray, List.set_cons_zero, List.set_cons_succ]
        refine wpAnyH_ready (rs := [3]) (by kernel_rfl) (by simp) ?_
        refine AllReadyH.cons rfl (fun K hK => ?_) ?_
        · go_simp
          refine (DO.out _ _ R_14).mono ?_
          rintro e W15 ⟨rfl, hb⟩
          have E15 := E14.trans (hb.mono E14.size)
          have s_15 := s_14.next hb
          have b_15 := b_14.next hb
          have R_15 := R_14.kept hb
          clear hb
          go_wp2_with fail
          refine hK.out _ _ (sK0 _ E15) (fun hHeld => ?_)
          clear hK K hHeld
          try simp only [Act.put, List.setIfInBounds_toArray, List.set_cons_zero, List.set_cons_succ]
          refine wpAnyH_ready (rs := [4]) (by kernel_rfl) (by simp) ?_
          refine AllReadyH.cons rfl (fun K hK => ?_) ?_
          · go_simp
            refine (B1.out _).mono ?_
            rintro e W16 ⟨rfl, hb⟩
            have E16 := E15.trans (hb.mono E15.size)
            have s_16 := s_15.next hb
            have b_16 := b_15.next hb
            have R_16 := R_15.kept hb
            clear hb
            go_wp2_with fail
            refine hK.out _ _ (sK0 _ E16) (fun hHeld => ?_)
            clear hK K hHeld
            try simp only [Act.put, List.setIfInBounds_toArray, List.set_cons_zero, List.set_cons_succ]
            refine wpAnyH_ready (rs := [6]) (by kernel_rfl) (by simp) ?_
            refine AllReadyH.cons rfl (fun K hK => ?_) ?_
            · obtain ⟨s0, s1, f0, f1⟩ := s_16.two
              go_simp
              have E17 : Below _ _ ((World.setCell W16 ⟨g13, 0, none⟩ (.int .u64 p0)).setCell ⟨g13, 1, none⟩ (.int .u64 p1)) := (E16.setCell ge_s _).setCell ge_s _
              have s_17 : Blk ((World.setCell W16 ⟨g13, 0, none⟩ (.int .u64 p0)).setCell ⟨g13, 1, none⟩ (.int .u64 p1)) g13 _ _ := s_16.put2 _ _
              have b_17 : Blk ((World.setCell W16 ⟨g13, 0, none⟩ (.int .u64 p0)).setCell ⟨g13, 1, none⟩ (.int .u64 p1)) g14 _ _ := (b_16.far (by show g14 ≠ g13; omega) _).far (by show g14 ≠ g13; omega) _
              clear s0 s1 f0 f1
              obtain ⟨W17, hV⟩ : ∃ V, (World.setCell W16 ⟨g13, 0, none⟩ (.int .u64 p0)).setCell ⟨g13, 1, none⟩ (.int .u64 p1) = V := ⟨_, rfl⟩
              rw [hV]
              rw [hV] at E17 s_17 b_17
              clear hV
              refine hK.out _ _ (sK0 _ E17) (fun hHeld => ?_)
              clear hK K hHeld
              try simp only [Act.put, List.setIfInBounds_toArray, List.set_cons_zero, List.set_cons_succ]
              refine wpAnyH_done (by kernel_rfl) ?_ _
              exact ⟨rfl, g13, g14, rfl, E17, s_17⟩
            exact AllReadyH.nil
          exact AllReadyH.nil
        exact AllReadyH.nil
      exact AllReadyH.nil
    exact AllReadyH.nil
  obtain ⟨rfl, gw, gb, rfl, EW, BW⟩ := hq
  obtain ⟨X1, hX1⟩ : ∃ X, W = X := ⟨_, rfl⟩
  rw [hX1] at EW BW
  rw [hX1]
  clear hX1
  refine hK0 _ _ ?_
  clear hK0
  go_wp2_with fail
  rename_i hK0
  have sK1 : ∀ W, Below X1.heap.size X1 W → W.cell? ⟨w.heap.size, 0, none⟩ = some (.int .u64 x) ∧ W.cell? ⟨w.heap.size, 1, none⟩ = some (.int .u64 y) :=
    fun W hb => sK0 W (EW.trans (hb.mono EW.size))
  refine Code.wp_mono (Q := fun e a W => e = .normal ∧ ∃ g h, a = { tmps := #[.agg #[.int .u64 x, .int .u64 y], .int .i64 z, .slice A m c, .pointer (some ⟨w.heap.size, 0, none⟩), undef, undef, .bool false, .pointer (some ⟨gw, 0, none⟩), .pointer (some ⟨g, 0, none⟩), .slice A m c, .int .i64 m, .bool false, .agg #[.int .u64 x, .int .u64 y], .int .i64 z, .slice (some ⟨gb, 0, none⟩) 1 1, .agg #[.int .u64 o0, .int .u64 o1], .agg #[.int .u64 p0, .int .u64 p1], .agg #[.int .u64 x, .int .u64 y], .int .i64 z, .slice (some ⟨h, 0, none⟩) 1 1, .agg #[.int .u64 o0, .int .u64 o1], .agg #[.int .u64 q0, .int .u64 q1], undef, undef, undef, undef, undef, undef, undef, undef, undef, undef, undef, undef, undef, undef, undef, undef, undef, undef, undef, undef, undef, undef, undef, undef, undef, undef, undef, undef, undef, undef, undef, undef, undef, undef, undef, undef, undef, undef, undef], defers := [] } ∧ Below X1.heap.size X1 W ∧ Blk W g 24 #[.int .u64 q0, .int .u64 q1]) (fun e a W hq => ?_) ?_
  case refine_2 =>
    refine wp_region_held_drew (S := fun W => W.cell? ⟨w.heap.size, 0, none⟩ = some (.int .u64 x) ∧ W.cell? ⟨w.heap.size, 1, none⟩ = some (.int .u64 y)) (by kernel_rfl) (sK1 _ (Below.refl _ _).drew) (fun hHeld => ?_)
    clear hHeld
    have E0 : Below X1.heap.size X1 X1.drew := (Below.refl _ _).drew
    obtain ⟨W0, hV⟩ : ∃ V, X1.drew = V := ⟨_, rfl⟩
    rw [hV] at E0 ⊢
    clear hV
    refine wpAnyH_take (i := 0) (v := .agg #[.int .u64 x, .int .u64 y]) rfl (by kernel_rfl) (by kernel_rfl) (by kernel_rfl) (fun _ _ _ h => nomatch h.1) (Or.inl ⟨by rfl, ?_⟩) (sK1 _ E0) ?_
    · intro w hSw; (try dsimp only at hSw); go_simp
    simp only [Act.put, List.setIfInBounds_toArray, List.set_cons_zero, List.set_cons_succ]
    refine wpAnyH_take (i := 1) (v := .int .i64 z) rfl (by kernel_rfl) (by kernel_rfl) (by kernel_rfl) (fun _ _ _ h => nomatch h.1) (Or.inl ⟨by rfl, ?_⟩) (sK1 _ E0) ?_
    · intro w hSw; (try dsimp only at hSw); go_simp
    simp only [Act.put, List.setIfInBounds_toArray, List.set_cons_zero, List.set_cons_succ]
    refine wpAnyH_ready (rs := [2, 5]) (by kernel_rfl) (by simp) ?_
    refine AllReadyH.cons rfl (fun K hK => ?_) ?_
    · go_simp
      have E1 := E0.alloc E0.size (.cells #[.int .i64 z] 3)
      have b_1 : Blk (World.alloc W0 (.cells #[.int .i64 z] 3)) W0.heap.size 3 #[.int .i64 z] := Blk.new _ _ _
      have ge_b := E0.size
      have R_1 := rd_one hz W0
      obtain ⟨W1, hV⟩ : ∃ V, World.alloc W0 (.cells #[.int .i64 z] 3) = V := ⟨_, rfl⟩
      obtain ⟨g1, hg⟩ : ∃ g, W0.heap.size = g := ⟨_, rfl⟩
      rw [hV, hg]
      simp only [hV, hg] at E1 b_1 ge_b R_1
      clear hV hg
      refine hK.out _ _ (sK1 _ E1) (fun hHeld => ?_)
      clear hK K hHeld
      try simp only [Act.put, List.setIfInBounds_toArray, List.set_cons_zero, List.set_cons_succ]
      refine wpAnyH_ready (rs := [3, 5]) (by kernel_rfl) (by simp) ?_
      refine AllReadyH.cons rfl (fun K hK => ?_) ?_
      · go_simp
        refine (DO.out _ _ R_1).mono ?_
        rintro e W2 ⟨rfl, hb⟩
        have E2 := E1.trans (hb.mono E1.size)
        have b_2 := b_1.next hb
        have R_2 := R_1.kept hb
        clear hb
        go_wp2_with fail
        refine hK.out _ _ (sK1 _ E2) (fun hHeld => ?_)
        clear hK K hHeld
        try simp only [Act.put, List.setIfInBounds_toArray, List.set_cons_zero, List.set_cons_succ]
        refine wpAnyH_ready (rs := [4, 5]) (by kernel_rfl) (by simp) ?_
        refine AllReadyH.cons rfl (fun K hK => ?_) ?_
        · go_simp
          refine (B2.out _).mono ?_
          rintro e W3 ⟨rfl, hb⟩
          have E3 := E2.trans (hb.mono E2.size)
          have b_3 := b_2.next hb
          have R_3 := R_2.kept hb
          clear hb
          go_wp2_with fail
          refine hK.out _ _ (sK1 _ E3) (fun hHeld => ?_)
          clear hK K hHeld
          try simp only [Act.put, List.setIfInBounds_toArray, List.set_cons_zero, List.set_cons_succ]
          refine wpAnyH_ready (rs := [5]) (by kernel_rfl) (by simp) ?_
          refine AllReadyH.cons rfl (fun K hK => ?_) ?_
          · go_simp
            have E4 := E3.alloc E3.size (.cells #[.int .u64 0, .int .u64 0] 24)
            have lt_b_4 := b_3.lt
            have b_4 := b_3.alloc (.cells #[.int .u64 0, .int .u64 0] 24)
            have R_4 := R_3.kept (Below.alloc_self W3 (.cells #[.int .u64 0, .int .u64 0] 24))
            have s_4 : Blk (World.alloc W3 (.cells #[.int .u64 0, .int .u64 0] 24)) W3.heap.size 24 #[.int .u64 0, .int .u64 0] := Blk.new _ _ _
            have ge_s := E3.size
            obtain ⟨W4, hV⟩ : ∃ V, World.alloc W3 (.cells #[.int .u64 0, .int .u64 0] 24) = V := ⟨_, rfl⟩
            obtain ⟨g4, hg⟩ : ∃ g, W3.heap.size = g := ⟨_, rfl⟩
            rw [hV, hg]
            simp only [hV, hg] at E4 b_4 lt_b_4 R_4 s_4 ge_s
            clear hV hg
            refine hK.out _ _ (sK1 _ E4) (fun hHeld => ?_)
            clear hK K hHeld
            try simp only [Act.put, List.setIfInBounds_toArray, List.set_cons_zero, List.set_cons_succ]
            refine wpAnyH_ready (rs := [6]) (by kernel_rfl) (by simp) ?_
            refine AllReadyH.cons rfl (fun K hK => ?_) ?_
            · obtain ⟨s0, s1, f0, f1⟩ := s_4.two
              go_simp
              have E5 : Below _ _ ((World.setCell W4 ⟨g4, 0, none⟩ (.int .u64 q0)).setCell ⟨g4, 1, none⟩ (.int .u64 q1)) := (E4.setCell ge_s _).setCell ge_s _
              have b_5 : Blk ((World.setCell W4 ⟨g4, 0, none⟩ (.int .u64 q0)).setCell ⟨g4, 1, none⟩ (.int .u64 q1)) g1 _ _ := (b_4.far (by show g1 ≠ g4; omega) _).far (by show g1 ≠ g4; omega) _
              have s_5 : Blk ((World.setCell W4 ⟨g4, 0, none⟩ (.int .u64 q0)).setCell ⟨g4, 1, none⟩ (.int .u64 q1)) g4 _ _ := s_4.put2 _ _
              clear s0 s1 f0 f1
              obtain ⟨W5, hV⟩ : ∃ V, (World.setCell W4 ⟨g4, 0, none⟩ (.int .u64 q0)).setCell ⟨g4, 1, none⟩ (.int .u64 q1) = V := ⟨_, rfl⟩
              rw [hV]
              rw [hV] at E5 b_5 s_5
              clear hV
              refine hK.out _ _ (sK1 _ E5) (fun hHeld => ?_)
              clear hK K hHeld
              try simp only [Act.put, List.setIfInBounds_toArray, List.set_cons_zero, List.set_cons_succ]
              refine wpAnyH_done (by kernel_rfl) ?_ _
              exact ⟨rfl, g4, g1, rfl, E5, s_5⟩
            exact AllReadyH.nil
          exact AllReadyH.nil
        refine AllReadyH.cons rfl (fun K hK => ?_) ?_
        · go_simp
          have E6 := E2.alloc E2.size (.cells #[.int .u64 0, .int .u64 0] 24)
          have lt_b_6 := b_2.lt
          have b_6 := b_2.alloc (.cells #[.int .u64 0, .int .u64 0] 24)
          have R_6 := R_2.kept (Below.alloc_self W2 (.cells #[.int .u64 0, .int .u64 0] 24))
          have s_6 : Blk (World.alloc W2 (.cells #[.int .u64 0, .int .u64 0] 24)) W2.heap.size 24 #[.int .u64 0, .int .u64 0] := Blk.new _ _ _
          have ge_s := E2.size
          obtain ⟨W6, hV⟩ : ∃ V, World.alloc W2 (.cells #[.int .u64 0, .int .u64 0] 24) = V := ⟨_, rfl⟩
          obtain ⟨g6, hg⟩ : ∃ g, W2.heap.size = g := ⟨_, rfl⟩
          rw [hV, hg]
          simp only [hV, hg] at E6 b_6 lt_b_6 R_6 s_6 ge_s
          clear hV hg
          refine hK.out _ _ (sK1 _ E6) (fun hHeld => ?_)
          clear hK K hHeld
          try simp only [Act.put, List.setIfInBounds_toArray, List.set_cons_zero, List.set_cons_succ]
          refine wpAnyH_ready (rs := [4]) (by kernel_rfl) (by simp) ?_
          refine AllReadyH.cons rfl (fun K hK => ?_) ?_
          · go_simp
            refine (B2.out _).mono ?_
            rintro e W7 ⟨rfl, hb⟩
            have E7 := E6.trans (hb.mono E6.size)
            have b_7 := b_6.next hb
            have s_7 := s_6.next hb
            have R_7 := R_6.kept hb
            clear hb
            go_wp2_with fail
            refine hK.out _ _ (sK1 _ E7) (fun hHeld => ?_)
            clear hK K hHeld
            try simp only [Act.put, List.setIfInBounds_toArray, List.set_cons_zero, List.set_cons_succ]
            refine wpAnyH_ready (rs := [6]) (by kernel_rfl) (by simp) ?_
            refine AllReadyH.cons rfl (fun K hK => ?_) ?_
            · obtain ⟨s0, s1, f0, f1⟩ := s_7.two
              go_simp
              have E8 : Below _ _ ((World.setCell W7 ⟨g6, 0, none⟩ (.int .u64 q0)).setCell ⟨g6, 1, none⟩ (.int .u64 q1)) := (E7.setCell ge_s _).setCell ge_s _
              have b_8 : Blk ((World.setCell W7 ⟨g6, 0, none⟩ (.int .u64 q0)).setCell ⟨g6, 1, none⟩ (.int .u64 q1)) g1 _ _ := (b_7.far (by show g1 ≠ g6; omega) _).far (by show g1 ≠ g6; omega) _
              have s_8 : Blk ((World.setCell W7 ⟨g6, 0, none⟩ (.int .u64 q0)).setCell ⟨g6, 1, none⟩ (.int .u64 q1)) g6 _ _ := s_7.put2 _ _
              clear s0 s1 f0 f1
              obtain ⟨W8, hV⟩ : ∃ V, (World.setCell W7 ⟨g6, 0, none⟩ (.int .u64 q0)).setCell ⟨g6, 1, none⟩ (.int .u64 q1) = V := ⟨_, rfl⟩
              rw [hV]
              rw [hV] at E8 b_8 s_8
              clear hV
              refine hK.out _ _ (sK1 _ E8) (fun hHeld => ?_)
              clear hK K hHeld
              try simp only [Act.put, List.setIfInBounds_toArray, List.set_cons_zero, List.set_cons_succ]
              refine wpAnyH_done (by kernel_rfl) ?_ _
              exact ⟨rfl, g6, g1, rfl, E8, s_8⟩
            exact AllReadyH.nil
          exact AllReadyH.nil
        exact AllReadyH.nil
      refine AllReadyH.cons rfl (fun K hK => ?_) ?_
      · go_simp
        have E9 := E1.alloc E1.size (.cells #[.int .u64 0, .int .u64 0] 24)
        have lt_b_9 := b_1.lt
        have b_9 := b_1.alloc (.cells #[.int .u64 0, .int .u64 0] 24)
        have R_9 := R_1.kept (Below.alloc_self W1 (.cells #[.int .u64 0, .int .u64 0] 24))
        have s_9 : Blk (World.alloc W1 (.cells #[.int .u64 0, .int .u64 0] 24)) W1.heap.size 24 #[.int .u64 0, .int .u64 0] := Blk.new _ _ _
        have ge_s := E1.size
        obtain ⟨W9, hV⟩ : ∃ V, World.alloc W1 (.cells #[.int .u64 0, .int .u64 0] 24) = V := ⟨_, rfl⟩
        obtain ⟨g9, hg⟩ : ∃ g, W1.heap.size = g := ⟨_, rfl⟩
        rw [hV, hg]
        simp only [hV, hg] at E9 b_9 lt_b_9 R_9 s_9 ge_s
        clear hV hg
        refine hK.out _ _ (sK1 _ E9) (fun hHeld => ?_)
        clear hK K hHeld
        try simp only [Act.put, List.setIfInBounds_toArray, List.set_cons_zero, List.set_cons_succ]
        refine wpAnyH_ready (rs := [3]) (by kernel_rfl) (by simp) ?_
        refine AllReadyH.cons rfl (fun K hK => ?_) ?_
        · go_simp
          refine (DO.out _ _ R_9).mono ?_
          rintro e W10 ⟨rfl, hb⟩
          have E10 := E9.trans (hb.mono E9.size)
          have b_10 := b_9.next hb
          have s_10 := s_9.next hb
          have R_10 := R_9.kept hb
          clear hb
          go_wp2_with fail
          refine hK.out _ _ (sK1 _ E10) (fun hHeld => ?_)
          clear hK K hHeld
          try simp only [Act.put, List.setIfInBounds_toArray, List.set_cons_zero, List.set_cons_succ]
          refine wpAnyH_ready (rs := [4]) (by kernel_rfl) (by simp) ?_
          refine AllReadyH.cons rfl (fun K hK => ?_) ?_
          · go_simp
            refine (B2.out _).mono ?_
            rintro e W11 ⟨rfl, hb⟩
            have E11 := E10.trans (hb.mono E10.size)
            have b_11 := b_10.next hb
            have s_11 := s_10.next hb
            have R_11 := R_10.kept hb
            clear hb
            go_wp2_with fail
            refine hK.out _ _ (sK1 _ E11) (fun hHeld => ?_)
            clear hK K hHeld
            try simp only [Act.put, List.setIfInBounds_toArray, List.set_cons_zero, List.set_cons_succ]
            refine wpAnyH_ready (rs := [6]) (by kernel_rfl) (by simp) ?_
            refine AllReadyH.cons rfl (fun K hK => ?_) ?_
            · obtain ⟨s0, s1, f0, f1⟩ := s_11.two
              go_simp
              have E12 : Below _ _ ((World.setCell W11 ⟨g9, 0, none⟩ (.int .u64 q0)).setCell ⟨g9, 1, none⟩ (.int .u64 q1)) := (E11.setCell ge_s _).setCell ge_s _
              have b_12 : Blk ((World.setCell W11 ⟨g9, 0, none⟩ (.int .u64 q0)).setCell ⟨g9, 1, none⟩ (.int .u64 q1)) g1 _ _ := (b_11.far (by show g1 ≠ g9; omega) _).far (by show g1 ≠ g9; omega) _
              have s_12 : Blk ((World.setCell W11 ⟨g9, 0, none⟩ (.int .u64 q0)).setCell ⟨g9, 1, none⟩ (.int .u64 q1)) g9 _ _ := s_11.put2 _ _
              clear s0 s1 f0 f1
              obtain ⟨W12, hV⟩ : ∃ V, (World.setCell W11 ⟨g9, 0, none⟩ (.int .u64 q0)).setCell ⟨g9, 1, none⟩ (.int .u64 q1) = V := ⟨_, rfl⟩
              rw [hV]
              rw [hV] at E12 b_12 s_12
              clear hV
              refine hK.out _ _ (sK1 _ E12) (fun hHeld => ?_)
              clear hK K hHeld
              try simp only [Act.put, List.setIfInBounds_toArray, List.set_cons_zero, List.set_cons_succ]
              refine wpAnyH_done (by kernel_rfl) ?_ _
              exact ⟨rfl, g9, g1, rfl, E12, s_12⟩
            exact AllReadyH.nil
          exact AllReadyH.nil
        exact AllReadyH.nil
      exact AllReadyH.nil
    refine AllReadyH.cons rfl (fun K hK => ?_) ?_
    · go_simp
      have E13 := E0.alloc E0.size (.cells #[.int .u64 0, .int .u64 0] 24)
      have s_13 : Blk (World.alloc W0 (.cells #[.int .u64 0, .int .u64 0] 24)) W0.heap.size 24 #[.int .u64 0, .int .u64 0] := Blk.new _ _ _
      have ge_s := E0.size
      obtain ⟨W13, hV⟩ : ∃ V, World.alloc W0 (.cells #[.int .u64 0, .int .u64 0] 24) = V := ⟨_, rfl⟩
      obtain ⟨g13, hg⟩ : ∃ g, W0.heap.size = g := ⟨_, rfl⟩
      rw [hV, hg]
      simp only [hV, hg] at E13 s_13 ge_s
      clear hV hg
      refine hK.out _ _ (sK1 _ E13) (fun hHeld => ?_)
      clear hK K hHeld
      try simp only [Act.put, List.setIfInBounds_toArray, List.set_cons_zero, List.set_cons_succ]
      refine wpAnyH_ready (rs := [2]) (by kernel_rfl) (by simp) ?_
      refine AllReadyH.cons rfl (fun K hK => ?_) ?_
      · go_simp
        have E14 := E13.alloc E13.size (.cells #[.int .i64 z] 3)
        have lt_s_14 := s_13.lt
        have s_14 := s_13.alloc (.cells #[.int .i64 z] 3)
        have b_14 : Blk (World.alloc W13 (.cells #[.int .i64 z] 3)) W13.heap.size 3 #[.int .i64 z] := Blk.new _ _ _
        have ge_b := E13.size
        have R_14 := rd_one hz W13
        obtain ⟨W14, hV⟩ : ∃ V, World.alloc W13 (.cells #[.int .i64 z] 3) = V := ⟨_, rfl⟩
        obtain ⟨g14, hg⟩ : ∃ g, W13.heap.size = g := ⟨_, rfl⟩
        rw [hV, hg]
        simp only [hV, hg] at E14 s_14 lt_s_14 b_14 ge_b R_14
        clear hV hg
        refine hK.out _ _ (sK1 _ E14) (fun hHeld => ?_)
        clear hK K hHeld
        try simp only [Act.put, List.setIfInBounds_toArray, List.set_cons_zero, List.set_cons_succ]
        refine wpAnyH_ready (rs := [3]) (by kernel_rfl) (by simp) ?_
        refine AllReadyH.cons rfl (fun K hK => ?_) ?_
        · go_simp
          refine (DO.out _ _ R_14).mono ?_
          rintro e W15 ⟨rfl, hb⟩
          have E15 := E14.trans (hb.mono E14.size)
          have s_15 := s_14.next hb
          have b_15 := b_14.next hb
          have R_15 := R_14.kept hb
          clear hb
          go_wp2_with fail
          refine hK.out _ _ (sK1 _ E15) (fun hHeld => ?_)
          clear hK K hHeld
          try simp only [Act.put, List.setIfInBounds_toArray, List.set_cons_zero, List.set_cons_succ]
          refine wpAnyH_ready (rs := [4]) (by kernel_rfl) (by simp) ?_
          refine AllReadyH.cons rfl (fun K hK => ?_) ?_
          · go_simp
            refine (B2.out _).mono ?_
            rintro e W16 ⟨rfl, hb⟩
            have E16 := E15.trans (hb.mono E15.size)
            have s_16 := s_15.next hb
            have b_16 := b_15.next hb
            have R_16 := R_15.kept hb
            clear hb
            go_wp2_with fail
            refine hK.out _ _ (sK1 _ E16) (fun hHeld => ?_)
            clear hK K hHeld
            try simp only [Act.put, List.setIfInBounds_toArray, List.set_cons_zero, List.set_cons_succ]
            refine wpAnyH_ready (rs := [6]) (by kernel_rfl) (by simp) ?_
            refine AllReadyH.cons rfl (fun K hK => ?_) ?_
            · obtain ⟨s0, s1, f0, f1⟩ := s_16.two
              go_simp
              have E17 : Below _ _ ((World.setCell W16 ⟨g13, 0, none⟩ (.int .u64 q0)).setCell ⟨g13, 1, none⟩ (.int .u64 q1)) := (E16.setCell ge_s _).setCell ge_s _
              have s_17 : Blk ((World.setCell W16 ⟨g13, 0, none⟩ (.int .u64 q0)).setCell ⟨g13, 1, none⟩ (.int .u64 q1)) g13 _ _ := s_16.put2 _ _
              have b_17 : Blk ((World.setCell W16 ⟨g13, 0, none⟩ (.int .u64 q0)).setCell ⟨g13, 1, none⟩ (.int .u64 q1)) g14 _ _ := (b_16.far (by show g14 ≠ g13; omega) _).far (by show g14 ≠ g13; omega) _
              clear s0 s1 f0 f1
              obtain ⟨W17, hV⟩ : ∃ V, (World.setCell W16 ⟨g13, 0, none⟩ (.int .u64 q0)).setCell ⟨g13, 1, none⟩ (.int .u64 q1) = V := ⟨_, rfl⟩
              rw [hV]
              rw [hV] at E17 s_17 b_17
              clear hV
              refine hK.out _ _ (sK1 _ E17) (fun hHeld => ?_)
              clear hK K hHeld
              try simp only [Act.put, List.setIfInBounds_toArray, List.set_cons_zero, List.set_cons_succ]
              refine wpAnyH_done (by kernel_rfl) ?_ _
              exact ⟨rfl, g13, g14, rfl, E17, s_17⟩
            exact AllReadyH.nil
          exact AllReadyH.nil
        exact AllReadyH.nil
      exact AllReadyH.nil
    exact AllReadyH.nil
  obtain ⟨rfl, go, gd, rfl, EO, BO⟩ := hq
  refine hK0 _ _ ?_
  clear hK0
  obtain ⟨c0, c1⟩ := sK1 W EO
  obtain ⟨d0, d1, _, _⟩ := (BW.next EO).two
  obtain ⟨e0, e1, _, _⟩ := BO.two
  have BE := Lib.hid (AE.trans ((EW.trans (EO.mono EW.size)).mono AE.size))
  obtain ⟨V, hV⟩ : ∃ V, W = V := ⟨_, rfl⟩
  rw [hV] at c0 c1 d0 d1 e0 e1 BE
  rw [hV]
  clear hV sK0 sK1 A0 AE EW BW EO BO
  go_wp2_with fail
  go_region_held3 (fun W => W.cell? ⟨w.heap.size, 0, none⟩ = some (.int .u64 x) ∧ W.cell? ⟨w.heap.size, 1, none⟩ = some (.int .u64 y) ∧ W.cell? ⟨gw, 0, none⟩ = some (.int .u64 p0) ∧ W.cell? ⟨gw, 1, none⟩ = some (.int .u64 p1) ∧ W.cell? ⟨go, 0, none⟩ = some (.int .u64 q0) ∧ W.cell? ⟨go, 1, none⟩ = some (.int .u64 q1))
    (go_keep)
    (first
      | (go_at_call 13; refine (PH.out (V.drew)).mono ?_; rintro e v1 ⟨rfl, hb⟩; have nc00 := Lib.hid (bkeep (w := V.drew) hb c0); have nc10 := Lib.hid (bkeep (w := V.drew) hb c1); have nd00 := Lib.hid (bkeep (w := V.drew) hb d0); have nd10 := Lib.hid (bkeep (w := V.drew) hb d1); have ne00 := Lib.hid (bkeep (w := V.drew) hb e0); have ne10 := Lib.hid (bkeep (w := V.drew) hb e1); clear c0 c1 d0 d1 e0 e1; have c0 := nc00.out; have c1 := nc10.out; have d0 := nd00.out; have d1 := nd10.out; have e0 := ne00.out; have e1 := ne10.out; have BE1 := Lib.hid ((BE.out.drew).trans (hb.mono (BE.out.drew).size)); clear hb)
      | (go_at_call 14; refine (DH.out (v1)).mono ?_; rintro e v2 ⟨rfl, hb⟩; have nc01 := Lib.hid (bkeep (w := v1) hb c0); have nc11 := Lib.hid (bkeep (w := v1) hb c1); have nd01 := Lib.hid (bkeep (w := v1) hb d0); have nd11 := Lib.hid (bkeep (w := v1) hb d1); have ne01 := Lib.hid (bkeep (w := v1) hb e0); have ne11 := Lib.hid (bkeep (w := v1) hb e1); clear c0 c1 d0 d1 e0 e1; have c0 := nc01.out; have c1 := nc11.out; have d0 := nd01.out; have d1 := nd11.out; have e0 := ne01.out; have e1 := ne11.out; have BE2 := Lib.hid (BE1.out.trans (hb.mono BE1.out.size)); clear hb)
      | (go_at_call 15; refine (PW.out (v2)).mono ?_; rintro e v3 ⟨rfl, hb⟩; have nc02 := Lib.hid (bkeep (w := v2) hb c0); have nc12 := Lib.hid (bkeep (w := v2) hb c1); have nd02 := Lib.hid (bkeep (w := v2) hb d0); have nd12 := Lib.hid (bkeep (w := v2) hb d1); have ne02 := Lib.hid (bkeep (w := v2) hb e0); have ne12 := Lib.hid (bkeep (w := v2) hb e1); clear c0 c1 d0 d1 e0 e1; have c0 := nc02.out; have c1 := nc12.out; have d0 := nd02.out; have d1 := nd12.out; have e0 := ne02.out; have e1 := ne12.out; have BE3 := Lib.hid (BE2.out.trans (hb.mono BE2.out.size)); clear hb)
      | (go_at_call 16; refine (PO.out (v3)).mono ?_; rintro e v4 ⟨rfl, hb⟩; have nc03 := Lib.hid (bkeep (w := v3) hb c0); have nc13 := Lib.hid (bkeep (w := v3) hb c1); have nd03 := Lib.hid (bkeep (w := v3) hb d0); have nd13 := Lib.hid (bkeep (w := v3) hb d1); have ne03 := Lib.hid (bkeep (w := v3) hb e0); have ne13 := Lib.hid (bkeep (w := v3) hb e1); clear c0 c1 d0 d1 e0 e1; have c0 := nc03.out; have c1 := nc13.out; have d0 := nd03.out; have d1 := nd13.out; have e0 := ne03.out; have e1 := ne13.out; have BE4 := Lib.hid (BE3.out.trans (hb.mono BE3.out.size)); clear hb)
      | (go_at_call 17; refine (PF.out (v4) (HR.out.kept BE4.out)).mono ?_; rintro e v5 ⟨rfl, hb⟩; have nc04 := Lib.hid (bkeep (w := v4) hb c0); have nc14 := Lib.hid (bkeep (w := v4) hb c1); have nd04 := Lib.hid (bkeep (w := v4) hb d0); have nd14 := Lib.hid (bkeep (w := v4) hb d1); have ne04 := Lib.hid (bkeep (w := v4) hb e0); have ne14 := Lib.hid (bkeep (w := v4) hb e1); clear c0 c1 d0 d1 e0 e1; have c0 := nc04.out; have c1 := nc14.out; have d0 := nd04.out; have d1 := nd14.out; have e0 := ne04.out; have e1 := ne14.out; have BE5 := Lib.hid (BE4.out.trans (hb.mono BE4.out.size)); clear hb)
      | (go_at_call 12; refine (DF.out (v5) (HR.out.kept BE5.out)).mono ?_; rintro e v6 ⟨rfl, hb⟩; have nc05 := Lib.hid (bkeep (w := v5) hb c0); have nc15 := Lib.hid (bkeep (w := v5) hb c1); have nd05 := Lib.hid (bkeep (w := v5) hb d0); have nd15 := Lib.hid (bkeep (w := v5) hb d1); have ne05 := Lib.hid (bkeep (w := v5) hb e0); have ne15 := Lib.hid (bkeep (w := v5) hb e1); clear c0 c1 d0 d1 e0 e1; have c0 := nc05.out; have c1 := nc15.out; have d0 := nd05.out; have d1 := nd15.out; have e0 := ne05.out; have e1 := ne15.out; have BE6 := Lib.hid (BE5.out.trans (hb.mono BE5.out.size)); clear hb)
      | (go_at_call 18; refine (PC.out (v6)).mono ?_; rintro e v7 ⟨rfl, hb⟩; have nc06 := Lib.hid (bkeep (w := v6) hb c0); have nc16 := Lib.hid (bkeep (w := v6) hb c1); have nd06 := Lib.hid (bkeep (w := v6) hb d0); have nd16 := Lib.hid (bkeep (w := v6) hb d1); have ne06 := Lib.hid (bkeep (w := v6) hb e0); have ne16 := Lib.hid (bkeep (w := v6) hb e1); clear c0 c1 d0 d1 e0 e1; have c0 := nc06.out; have c1 := nc16.out; have d0 := nd06.out; have d1 := nd16.out; have e0 := ne06.out; have e1 := ne16.out; have BE7 := Lib.hid (BE6.out.trans (hb.mono BE6.out.size)); clear hb)
      | (go_at_call 19; refine (DI.out (v7)).mono ?_; rintro e v8 ⟨LA, LC, rfl, _, hb⟩; have nc07 := Lib.hid (bkeep (w := v7) hb c0); have nc17 := Lib.hid (bkeep (w := v7) hb c1); have nd07 := Lib.hid (bkeep (w := v7) hb d0); have nd17 := Lib.hid (bkeep (w := v7) hb d1); have ne07 := Lib.hid (bkeep (w := v7) hb e0); have ne17 := Lib.hid (bkeep (w := v7) hb e1); clear c0 c1 d0 d1 e0 e1; have c0 := nc07.out; have c1 := nc17.out; have d0 := nd07.out; have d1 := nd17.out; have e0 := ne07.out; have e1 := ne17.out; have BE8 := Lib.hid (BE7.out.trans (hb.mono BE7.out.size)); clear hb)
      | (go_at_call 20; refine (balive (v8) (HT.out.kept BE8.out)).mono ?_; rintro e v9 ⟨rfl, hb⟩; have nc08 := Lib.hid (bkeep (w := v8) hb c0); have nc18 := Lib.hid (bkeep (w := v8) hb c1); have nd08 := Lib.hid (bkeep (w := v8) hb d0); have nd18 := Lib.hid (bkeep (w := v8) hb d1); have ne08 := Lib.hid (bkeep (w := v8) hb e0); have ne18 := Lib.hid (bkeep (w := v8) hb e1); clear c0 c1 d0 d1 e0 e1; have c0 := nc08.out; have c1 := nc18.out; have d0 := nd08.out; have d1 := nd18.out; have e0 := ne08.out; have e1 := ne18.out; have BE9 := Lib.hid (BE8.out.trans (hb.mono BE8.out.size)); clear hb))
  go_wp2_with fail
  go_ret
  exact ⟨rfl, BE9.out⟩
theorem walk {a b z : Int} {A : Option Addr} {c : Nat} {zs : List Int} {w : World} (w0 : (Lit.int .u64 a).wf = true) (w1 : (Lit.int .u64 b).wf = true) (w2 : (Lit.int .i64 z).wf = true) (hl : zs.length ≤ c) (hm : c ≤ maxLen) (hr : RdI w .i64 A zs) (hL : laidMetH Tryd.prog Rows.bitsTellRow.laid w) :
    Calls Tryd.prog 3 #[.agg #[.int .u64 a, .int .u64 b], .int .i64 z, .slice A zs.length c] w fun e w' => e = .returned (.bool true) ∧ Below w.heap.size w w' := by
  have ha : 0 ≤ a ∧ a ≤ 18446744073709551615 := by simpa [Lit.wf, IntKind.min, IntKind.max, IntKind.signed, IntKind.bits] using w0
  have hb : 0 ≤ b ∧ b ≤ 18446744073709551615 := by simpa [Lit.wf, IntKind.min, IntKind.max, IntKind.signed, IntKind.bits] using w1
  obtain ⟨x, rfl⟩ := Int.eq_ofNat_of_zero_le ha.1
  obtain ⟨y, rfl⟩ := Int.eq_ofNat_of_zero_le hb.1
  have := walk_f (mem x y) z w2 A c zs w (tz_of_laid hL) hr (Nat.le_trans hl hm)
  rwa [← setV_mem (by omega) (by omega)] at this


end Go.Proofs.YtdcollehdhkngaaDoor.bitsTell
