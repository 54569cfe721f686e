/- The example of layer 31. -/
import Derived.Test.YtdcollehdhkngaaRows
import Derived.Test.YtdcollehdhkngaaRowKit
import Derived.Test.YtdcollehdhkngaaSlicesEq
import Derived.Test.YtdcollehdhkngaaRowL
import Derived.Test.YtdcollehdhkngaaMakeI
import Derived.Test.YtdcollehdhkngaaBlocks
import Derived.Test.YtdcollehdhkngaaBitsMath
import Derived.Test.YtdcollehdhkngaaBitsA2
import Derived.Test.YtdcollehdhkngaaBitsD
import Derived.Test.YtdcollehdhkngaaBitsE
import Derived.Test.YtdcollehdhkngaaBitsH
import Derived.Test.YtdcollehdhkngaaBitsK
import Derived.Test.YtdcollehdhkngaaBitsP
import Derived.Test.YtdcollehdhkngaaBitsS
import Derived.Test.YtdcollehdhkngaaRowS
import Derived.Test.YtdcollehdhkngaaRowZ
import Derived.Test.YtdcollehdhkngaaCarA
import Derived.Test.YtdcollehdhkngaaCarB
import Derived.Test.YtdcollehdhkngaaWantA
import Derived.Test.YtdcollehdhkngaaFaceA
import Derived.Test.YtdcollehdhkngaaFaceB
import Derived.Test.YtdcollehdhkngaaFaceC
import Derived.Test.YtdcollehdhkngaaFaceD
import Derived.WalkKit
import Derived.DeepKeys
import Derived.Deep.LoopGhost
import Derived.IntWalk
import Derived.Lib.Hide
import Derived.WalkSpells
import Derived.WalkLawsBesides
import Derived.Laws.CopyOwn
import Derived.Deep.QuietTactic
import Derived.Deep.RegionHeld3
import Derived.BigQuiet
import Derived.BigRegion
namespace Go.Proofs.Ytdcollehdhkngaa
open Go.RowKit
set_option linter.unusedSimpArgs false
set_option linter.unusedVariables false
theorem below_alloc_self (w : World) (o : Obj) : Below w.heap.size w (w.alloc o) := (Below.refl w.heap.size w).alloc (Nat.le_refl _) o
theorem rd_3 (w : World) : RdI (w.alloc (.cells #[.int .i64 3] 3)) .i64 (some ⟨w.heap.size, 0, none⟩) [3] := rdI_mk fun i hi => by
  have h0 := World.cell?_alloc_mark w #[.int .i64 3] 3 (0, 0) 0
  rcases (show i = 0 by simp at hi; omega) with rfl
  exact ⟨h0, rfl⟩
def z00 : Nat → Nat → Int := fun _ _ => 0
def exW : Nat → Bool := waF z00 0 4 (fun _ => false) (ofF [3] 1)
def exU : Nat → Bool := laF 0 4 (fun _ => false)
def exD : Nat → Bool := laF 0 4 (ofF [3] 1)
theorem ex_of : ofWay exW exU exD 3 1 = -1 := by decide +kernel
theorem ex_stop3 : stopB (rdF z00 0) exW exU exD 3 1 = true := by decide +kernel
theorem ex_stop2 : stopB (rdF z00 0) exW exU exD 2 1 = false := by decide +kernel
set_option maxRecDepth 100000 in
set_option maxHeartbeats 2000000 in
theorem falive (w : World) : Calls Try.prog 10 #[] w fun e w' => e = .returned (.bool true) ∧ Below w.heap.size w w' := by
  have OF := fun (g : Nat) w hr => of_any (some ⟨g, 0, none⟩) 1 [3] w hr (by simp)
  rw [show ([3] : List Int).length = 1 from rfl] at OF
  have SE := fun w => see_any 0 1 0 0 false none 0 0 z00 4 (fun _ => false) (ofF [3] 1) w (fun i hi => absurd hi (by omega)) (by omega)
  change ∀ w, Calls Try.prog 7 #[carV 0 1 0 0 false none 0 0, .int .i64 4, setV (fun _ => false), setV (ofF [3] 1)] w fun e w' => e = .returned (sgtV exW exU exD) ∧ Below w.heap.size w w' at SE
  rw [set_none] at SE
  have WY := fun w => ofway_any exW exU exD 3 1 w
  rw [ex_of] at WY
  have S3 := fun w => stop_any (rdF z00 0) exW exU exD 3 0 1 0 0 false none 0 0 z00 w (fun i hi => absurd hi (by omega)) (by omega) rfl
  rw [ex_stop3] at S3
  have S2 := fun w => stop_any (rdF z00 0) exW exU exD 2 0 1 0 0 false none 0 0 z00 w (fun i hi => absurd hi (by omega)) (by omega) rfl
  rw [ex_stop2] at S2
  unfold sgtV carV setV at *
  obtain ⟨w0, hw0⟩ : ∃ x, wordX exW = x := ⟨_, rfl⟩
  obtain ⟨w1, hw1⟩ : ∃ x, wordY exW = x := ⟨_, rfl⟩
  obtain ⟨u0, hu0⟩ : ∃ x, wordX exU = x := ⟨_, rfl⟩
  obtain ⟨u1, hu1⟩ : ∃ x, wordY exU = x := ⟨_, rfl⟩
  obtain ⟨d0, hd0⟩ : ∃ x, wordX exD = x := ⟨_, rfl⟩
  obtain ⟨d1, hd1⟩ : ∃ x, wordY exD = x := ⟨_, rfl⟩
  obtain ⟨o0, ho0⟩ : ∃ x, wordX (ofF [3] 1) = x := ⟨_, rfl⟩
  obtain ⟨o1, ho1⟩ : ∃ x, wordY (ofF [3] 1) = x := ⟨_, rfl⟩
  simp only [hw0, hw1, hu0, hu1, hd0, hd1, ho0, ho1] at OF SE WY S3 S2
  replace OF := Lib.hid OF
  replace SE := Lib.hid SE
  replace WY := Lib.hid WY
  replace S3 := Lib.hid S3
  replace S2 := Lib.hid S2
  clear hw0 hw1 hu0 hu1 hd0 hd1 ho0 ho1
  go_enter Try.func10, Try.ntmps10
  go_wp2_with fail
  rename_i hK0
  have A0 := Blk.new w #[(.int .i64 0 : Value), .int .i64 1, .int .i64 0, .int .i64 0, .bool false, .slice none 0 0] 25
  have AE := (Below.refl w.heap.size w).alloc (Nat.le_refl _) (.cells #[(.int .i64 0 : Value), .int .i64 1, .int .i64 0, .int .i64 0, .bool false, .slice none 0 0] 25)
  obtain ⟨X0, hX0⟩ : ∃ X, w.alloc (.cells #[(.int .i64 0 : Value), .int .i64 1, .int .i64 0, .int .i64 0, .bool false, .slice none 0 0] 25) = X := ⟨_, rfl⟩
  rw [hX0] at A0 AE ⊢
  clear hX0
  have sK : ∀ W, Below X0.heap.size X0 W → (fun W => W.cell? ⟨w.heap.size, 0, none⟩ = some (.int .i64 0) ∧ W.cell? ⟨w.heap.size, 1, none⟩ = some (.int .i64 1) ∧ W.cell? ⟨w.heap.size, 2, none⟩ = some (.int .i64 0) ∧ W.cell? ⟨w.heap.size, 3, none⟩ = some (.int .i64 0) ∧ W.cell? ⟨w.heap.size, 4, none⟩ = some (.bool false) ∧ W.cell? ⟨w.heap.size, 5, none⟩ = some (.slice none 0 0)) W := fun W hb => ⟨(A0.next hb).cell 0, (A0.next hb).cell 1, (A0.next hb).cell 2, (A0.next hb).cell 3, (A0.next hb).cell 4, (A0.next hb).cell 5⟩
  refine Code.wp_mono (Q := fun e a W => e = .normal ∧ ∃ g h, a = { tmps := #[.bool false, .pointer (some ⟨w.heap.size, 0, none⟩), .pointer (some ⟨g, 0, none⟩), .agg #[.int .i64 0, .int .i64 1, .int .i64 0, .int .i64 0, .bool false, .slice none 0 0], .agg #[.int .i64 0, .int .i64 1, .int .i64 0, .int .i64 0, .bool false, .slice none 0 0], .agg #[.int .u64 0, .int .u64 0], .slice (some ⟨h, 0, none⟩) 1 1, .agg #[.int .u64 o0, .int .u64 o1], .agg #[.int .u64 w0, .int .u64 w1, .int .u64 u0, .int .u64 u1, .int .u64 d0, .int .u64 d1], undef, undef, undef, undef, undef, undef, undef, undef, undef, undef, undef, undef, undef, undef], defers := [] } ∧ Below X0.heap.size X0 W ∧ Blk W g 32 #[.int .u64 w0, .int .u64 w1, .int .u64 u0, .int .u64 u1, .int .u64 d0, .int .u64 d1]) (fun e a W hq => ?_) ?_
  case refine_2 =>
    refine wp_region_held_drew (S := (fun W => W.cell? ⟨w.heap.size, 0, none⟩ = some (.int .i64 0) ∧ W.cell? ⟨w.heap.size, 1, none⟩ = some (.int .i64 1) ∧ W.cell? ⟨w.heap.size, 2, none⟩ = some (.int .i64 0) ∧ W.cell? ⟨w.heap.size, 3, none⟩ = some (.int .i64 0) ∧ W.cell? ⟨w.heap.size, 4, none⟩ = some (.bool false) ∧ W.cell? ⟨w.heap.size, 5, none⟩ = some (.slice none 0 0))) (by kernel_rfl) (sK _ (Below.refl _ _).drew) (fun hHeld => ?_)
    clear hHeld
    have E0 : Below X0.heap.size X0 X0.drew := (Below.refl _ _).drew
    obtain ⟨W0, hV⟩ : ∃ V, X0.drew = V := ⟨_, rfl⟩
    rw [hV] at E0 ⊢
    clear hV
    refine wpAnyH_take (i := 0) (v := .agg #[.int .i64 0, .int .i64 1, .int .i64 0, .int .i64 0, .bool false, .slice none 0 0]) rfl (by kernel_rfl) (by kernel_rfl) (by kernel_rfl) (fun _ _ _ h => nomatch h.1) (Or.inl ⟨by rfl, ?_⟩) (sK _ E0) ?_
    · intro w hSw; (try dsimp only at hSw); go_simp
    simp only [Act.put, List.setIfInBounds_toArray, List.set_cons_zero, List.set_cons_succ]
    refine wpAnyH_take (i := 1) (v := .agg #[.int .u64 0, .int .u64 0]) rfl (by kernel_rfl) (by kernel_rfl) (by kernel_rfl) (fun _ _ _ h => nomatch h.1) (Or.inl ⟨by rfl, ?_⟩) (sK _ E0) ?_
    · intro w hSw; (try dsimp only at hSw); go_simp
    simp only [Act.put, List.setIfInBounds_toArray, List.set_cons_zero, List.set_cons_succ]
    refine wpAnyH_ready (rs := [2, 5]) (by kernel_rfl) (by simp) ?_
    refine AllReadyH.cons rfl (fun K hK => ?_) ?_
    · go_simp
      have E1 := E0.alloc E0.size (.cells #[.int .i64 3] 3)
      have b_1 : Blk (World.alloc W0 (.cells #[.int .i64 3] 3)) W0.heap.size 3 #[.int .i64 3] := Blk.new _ _ _
      have ge_b := E0.size
      have R_1 := rd_3 W0
      obtain ⟨W1, hV⟩ : ∃ V, World.alloc W0 (.cells #[.int .i64 3] 3) = V := ⟨_, rfl⟩
      obtain ⟨g1, hg⟩ : ∃ g, W0.heap.size = g := ⟨_, rfl⟩
      rw [hV, hg]
      simp only [hV, hg] at E1 b_1 ge_b R_1
      clear hV hg
      refine hK.out _ _ (sK _ E1) (fun hHeld => ?_)
      clear hK K hHeld
      try simp only [Act.put, List.setIfInBounds_toArray, List.set_cons_zero, List.set_cons_succ]
      refine wpAnyH_ready (rs := [3, 5]) (by kernel_rfl) (by simp) ?_
      refine AllReadyH.cons rfl (fun K hK => ?_) ?_
      · go_simp
        refine (OF.out _ _ R_1).mono ?_
        rintro e W2 ⟨rfl, hb⟩
        have E2 := E1.trans (hb.mono E1.size)
        have b_2 := b_1.next hb
        have R_2 := R_1.kept hb
        clear hb
        go_wp2_with fail
        refine hK.out _ _ (sK _ E2) (fun hHeld => ?_)
        clear hK K hHeld
        try simp only [Act.put, List.setIfInBounds_toArray, List.set_cons_zero, List.set_cons_succ]
        refine wpAnyH_ready (rs := [4, 5]) (by kernel_rfl) (by simp) ?_
        refine AllReadyH.cons rfl (fun K hK => ?_) ?_
        · go_simp
          refine (SE.out _).mono ?_
          rintro e W3 ⟨rfl, hb⟩
          have E3 := E2.trans (hb.mono E2.size)
          have b_3 := b_2.next hb
          have R_3 := R_2.kept hb
          clear hb
          go_wp2_with fail
          refine hK.out _ _ (sK _ E3) (fun hHeld => ?_)
          clear hK K hHeld
          try simp only [Act.put, List.setIfInBounds_toArray, List.set_cons_zero, List.set_cons_succ]
          refine wpAnyH_ready (rs := [5]) (by kernel_rfl) (by simp) ?_
          refine AllReadyH.cons rfl (fun K hK => ?_) ?_
          · go_simp
            have E4 := E3.alloc E3.size (.cells #[.int .u64 0, .int .u64 0, .int .u64 0, .int .u64 0, .int .u64 0, .int .u64 0] 32)
            have lt_b_4 := b_3.lt
            have b_4 := b_3.alloc (.cells #[.int .u64 0, .int .u64 0, .int .u64 0, .int .u64 0, .int .u64 0, .int .u64 0] 32)
            have R_4 := R_3.kept (below_alloc_self W3 (.cells #[.int .u64 0, .int .u64 0, .int .u64 0, .int .u64 0, .int .u64 0, .int .u64 0] 32))
            have s_4 : Blk (World.alloc W3 (.cells #[.int .u64 0, .int .u64 0, .int .u64 0, .int .u64 0, .int .u64 0, .int .u64 0] 32)) W3.heap.size 32 #[.int .u64 0, .int .u64 0, .int .u64 0, .int .u64 0, .int .u64 0, .int .u64 0] := Blk.new _ _ _
            have ge_s := E3.size
            obtain ⟨W4, hV⟩ : ∃ V, World.alloc W3 (.cells #[.int .u64 0, .int .u64 0, .int .u64 0, .int .u64 0, .int .u64 0, .int .u64 0] 32) = V := ⟨_, rfl⟩
            obtain ⟨g4, hg⟩ : ∃ g, W3.heap.size = g := ⟨_, rfl⟩
            rw [hV, hg]
            simp only [hV, hg] at E4 b_4 lt_b_4 R_4 s_4 ge_s
            clear hV hg
            refine hK.out _ _ (sK _ E4) (fun hHeld => ?_)
            clear hK K hHeld
            try simp only [Act.put, List.setIfInBounds_toArray, List.set_cons_zero, List.set_cons_succ]
            refine wpAnyH_ready (rs := [6]) (by kernel_rfl) (by simp) ?_
            refine AllReadyH.cons rfl (fun K hK => ?_) ?_
            · have s0 := s_4.cell 0
              have s1 := s_4.cell 1
              have s2 := s_4.cell 2
              have s3 := s_4.cell 3
              have s4 := s_4.cell 4
              have s5 := s_4.cell 5
              have f0 := s_4.frozen 0
              have f1 := s_4.frozen 1
              have f2 := s_4.frozen 2
              have f3 := s_4.frozen 3
              have f4 := s_4.frozen 4
              have f5 := s_4.frozen 5
              go_simp
              have E5 : Below _ _ (World.setCell (World.setCell (World.setCell (World.setCell (World.setCell (World.setCell W4 ⟨g4, 0, none⟩ (.int .u64 w0)) ⟨g4, 1, none⟩ (.int .u64 w1)) ⟨g4, 2, none⟩ (.int .u64 u0)) ⟨g4, 3, none⟩ (.int .u64 u1)) ⟨g4, 4, none⟩ (.int .u64 d0)) ⟨g4, 5, none⟩ (.int .u64 d1)) := ((((((E4.setCell ge_s _).setCell ge_s _).setCell ge_s _).setCell ge_s _).setCell ge_s _).setCell ge_s _)
              have b_5 : Blk (World.setCell (World.setCell (World.setCell (World.setCell (World.setCell (World.setCell W4 ⟨g4, 0, none⟩ (.int .u64 w0)) ⟨g4, 1, none⟩ (.int .u64 w1)) ⟨g4, 2, none⟩ (.int .u64 u0)) ⟨g4, 3, none⟩ (.int .u64 u1)) ⟨g4, 4, none⟩ (.int .u64 d0)) ⟨g4, 5, none⟩ (.int .u64 d1)) g1 _ _ := ((((((b_4.far (by show g1 ≠ g4; omega) _).far (by show g1 ≠ g4; omega) _).far (by show g1 ≠ g4; omega) _).far (by show g1 ≠ g4; omega) _).far (by show g1 ≠ g4; omega) _).far (by show g1 ≠ g4; omega) _)
              have s_5 : Blk (World.setCell (World.setCell (World.setCell (World.setCell (World.setCell (World.setCell W4 ⟨g4, 0, none⟩ (.int .u64 w0)) ⟨g4, 1, none⟩ (.int .u64 w1)) ⟨g4, 2, none⟩ (.int .u64 u0)) ⟨g4, 3, none⟩ (.int .u64 u1)) ⟨g4, 4, none⟩ (.int .u64 d0)) ⟨g4, 5, none⟩ (.int .u64 d1)) g4 _ #[.int .u64 w0, .int .u64 w1, .int .u64 u0, .int .u64 u1, .int .u64 d0, .int .u64 d1] := ((((((s_4.set 0 (.int .u64 w0)).set 1 (.int .u64 w1)).set 2 (.int .u64 u0)).set 3 (.int .u64 u1)).set 4 (.int .u64 d0)).set 5 (.int .u64 d1))
              clear s0 s1 s2 s3 s4 s5 f0 f1 f2 f3 f4 f5
              obtain ⟨W5, hV⟩ : ∃ V, (World.setCell (World.setCell (World.setCell (World.setCell (World.setCell (World.setCell W4 ⟨g4, 0, none⟩ (.int .u64 w0)) ⟨g4, 1, none⟩ (.int .u64 w1)) ⟨g4, 2, none⟩ (.int .u64 u0)) ⟨g4, 3, none⟩ (.int .u64 u1)) ⟨g4, 4, none⟩ (.int .u64 d0)) ⟨g4, 5, none⟩ (.int .u64 d1)) = V := ⟨_, rfl⟩
              rw [hV]
              rw [hV] at E5 b_5 s_5
              clear hV
              refine hK.out _ _ (sK _ E5) (fun hHeld => ?_)
              clear hK K hHeld
              try simp only [Act.put, List.setIfInBounds_toArray, List.set_cons_zero, List.set_cons_succ]
              refine wpAnyH_done (by kernel_rfl) ?_ _
              exact ⟨rfl, g4, g1, rfl, E5, s_5⟩
            exact AllReadyH.nil
          exact AllReadyH.nil
        refine AllReadyH.cons rfl (fun K hK => ?_) ?_
        · go_simp
          have E6 := E2.alloc E2.size (.cells #[.int .u64 0, .int .u64 0, .int .u64 0, .int .u64 0, .int .u64 0, .int .u64 0] 32)
          have lt_b_6 := b_2.lt
          have b_6 := b_2.alloc (.cells #[.int .u64 0, .int .u64 0, .int .u64 0, .int .u64 0, .int .u64 0, .int .u64 0] 32)
          have R_6 := R_2.kept (below_alloc_self W2 (.cells #[.int .u64 0, .int .u64 0, .int .u64 0, .int .u64 0, .int .u64 0, .int .u64 0] 32))
          have s_6 : Blk (World.alloc W2 (.cells #[.int .u64 0, .int .u64 0, .int .u64 0, .int .u64 0, .int .u64 0, .int .u64 0] 32)) W2.heap.size 32 #[.int .u64 0, .int .u64 0, .int .u64 0, .int .u64 0, .int .u64 0, .int .u64 0] := Blk.new _ _ _
          have ge_s := E2.size
          obtain ⟨W6, hV⟩ : ∃ V, World.alloc W2 (.cells #[.int .u64 0, .int .u64 0, .int .u64 0, .int .u64 0, .int .u64 0, .int .u64 0] 32) = V := ⟨_, rfl⟩
          obtain ⟨g6, hg⟩ : ∃ g, W2.heap.size = g := ⟨_, rfl⟩
          rw [hV, hg]
          simp only [hV, hg] at E6 b_6 lt_b_6 R_6 s_6 ge_s
          clear hV hg
          refine hK.out _ _ (sK _ E6) (fun hHeld => ?_)
          clear hK K hHeld
          try simp only [Act.put, List.setIfInBounds_toArray, List.set_cons_zero, List.set_cons_succ]
          refine wpAnyH_ready (rs := [4]) (by kernel_rfl) (by simp) ?_
          refine AllReadyH.cons rfl (fun K hK => ?_) ?_
          · go_simp
            refine (SE.out _).mono ?_
            rintro e W7 ⟨rfl, hb⟩
            have E7 := E6.trans (hb.mono E6.size)
            have b_7 := b_6.next hb
            have s_7 := s_6.next hb
            have R_7 := R_6.kept hb
            clear hb
            go_wp2_with fail
            refine hK.out _ _ (sK _ E7) (fun hHeld => ?_)
            clear hK K hHeld
            try simp only [Act.put, List.setIfInBounds_toArray, List.set_cons_zero, List.set_cons_succ]
            refine wpAnyH_ready (rs := [6]) (by kernel_rfl) (by simp) ?_
            refine AllReadyH.cons rfl (fun K hK => ?_) ?_
            · have s0 := s_7.cell 0
              have s1 := s_7.cell 1
              have s2 := s_7.cell 2
              have s3 := s_7.cell 3
              have s4 := s_7.cell 4
              have s5 := s_7.cell 5
              have f0 := s_7.frozen 0
              have f1 := s_7.frozen 1
              have f2 := s_7.frozen 2
              have f3 := s_7.frozen 3
              have f4 := s_7.frozen 4
              have f5 := s_7.frozen 5
              go_simp
              have E8 : Below _ _ (World.setCell (World.setCell (World.setCell (World.setCell (World.setCell (World.setCell W7 ⟨g6, 0, none⟩ (.int .u64 w0)) ⟨g6, 1, none⟩ (.int .u64 w1)) ⟨g6, 2, none⟩ (.int .u64 u0)) ⟨g6, 3, none⟩ (.int .u64 u1)) ⟨g6, 4, none⟩ (.int .u64 d0)) ⟨g6, 5, none⟩ (.int .u64 d1)) := ((((((E7.setCell ge_s _).setCell ge_s _).setCell ge_s _).setCell ge_s _).setCell ge_s _).setCell ge_s _)
              have b_8 : Blk (World.setCell (World.setCell (World.setCell (World.setCell (World.setCell (World.setCell W7 ⟨g6, 0, none⟩ (.int .u64 w0)) ⟨g6, 1, none⟩ (.int .u64 w1)) ⟨g6, 2, none⟩ (.int .u64 u0)) ⟨g6, 3, none⟩ (.int .u64 u1)) ⟨g6, 4, none⟩ (.int .u64 d0)) ⟨g6, 5, none⟩ (.int .u64 d1)) g1 _ _ := ((((((b_7.far (by show g1 ≠ g6; omega) _).far (by show g1 ≠ g6; omega) _).far (by show g1 ≠ g6; omega) _).far (by show g1 ≠ g6; omega) _).far (by show g1 ≠ g6; omega) _).far (by show g1 ≠ g6; omega) _)
              have s_8 : Blk (World.setCell (World.setCell (World.setCell (World.setCell (World.setCell (World.setCell W7 ⟨g6, 0, none⟩ (.int .u64 w0)) ⟨g6, 1, none⟩ (.int .u64 w1)) ⟨g6, 2, none⟩ (.int .u64 u0)) ⟨g6, 3, none⟩ (.int .u64 u1)) ⟨g6, 4, none⟩ (.int .u64 d0)) ⟨g6, 5, none⟩ (.int .u64 d1)) g6 _ #[.int .u64 w0, .int .u64 w1, .int .u64 u0, .int .u64 u1, .int .u64 d0, .int .u64 d1] := ((((((s_7.set 0 (.int .u64 w0)).set 1 (.int .u64 w1)).set 2 (.int .u64 u0)).set 3 (.int .u64 u1)).set 4 (.int .u64 d0)).set 5 (.int .u64 d1))
              clear s0 s1 s2 s3 s4 s5 f0 f1 f2 f3 f4 f5
              obtain ⟨W8, hV⟩ : ∃ V, (World.setCell (World.setCell (World.setCell (World.setCell (World.setCell (World.setCell W7 ⟨g6, 0, none⟩ (.int .u64 w0)) ⟨g6, 1, none⟩ (.int .u64 w1)) ⟨g6, 2, none⟩ (.int .u64 u0)) ⟨g6, 3, none⟩ (.int .u64 u1)) ⟨g6, 4, none⟩ (.int .u64 d0)) ⟨g6, 5, none⟩ (.int .u64 d1)) = V := ⟨_, rfl⟩
              rw [hV]
              rw [hV] at E8 b_8 s_8
              clear hV
              refine hK.out _ _ (sK _ E8) (fun hHeld => ?_)
              clear hK K hHeld
              try simp only [Act.put, List.setIfInBounds_toArray, List.set_cons_zero, List.set_cons_succ]
              refine wpAnyH_done (by kernel_rfl) ?_ _
              exact ⟨rfl, g6, g1, rfl, E8, s_8⟩
            exact AllReadyH.nil
          exact AllReadyH.nil
        exact AllReadyH.nil
      refine AllReadyH.cons rfl (fun K hK => ?_) ?_
      · go_simp
        have E9 := E1.alloc E1.size (.cells #[.int .u64 0, .int .u64 0, .int .u64 0, .int .u64 0, .int .u64 0, .int .u64 0] 32)
        have lt_b_9 := b_1.lt
        have b_9 := b_1.alloc (.cells #[.int .u64 0, .int .u64 0, .int .u64 0, .int .u64 0, .int .u64 0, .int .u64 0] 32)
        have R_9 := R_1.kept (below_alloc_self W1 (.cells #[.int .u64 0, .int .u64 0, .int .u64 0, .int .u64 0, .int .u64 0, .int .u64 0] 32))
        have s_9 : Blk (World.alloc W1 (.cells #[.int .u64 0, .int .u64 0, .int .u64 0, .int .u64 0, .int .u64 0, .int .u64 0] 32)) W1.heap.size 32 #[.int .u64 0, .int .u64 0, .int .u64 0, .int .u64 0, .int .u64 0, .int .u64 0] := Blk.new _ _ _
        have ge_s := E1.size
        obtain ⟨W9, hV⟩ : ∃ V, World.alloc W1 (.cells #[.int .u64 0, .int .u64 0, .int .u64 0, .int .u64 0, .int .u64 0, .int .u64 0] 32) = V := ⟨_, rfl⟩
        obtain ⟨g9, hg⟩ : ∃ g, W1.heap.size = g := ⟨_, rfl⟩
        rw [hV, hg]
        simp only [hV, hg] at E9 b_9 lt_b_9 R_9 s_9 ge_s
        clear hV hg
        refine hK.out _ _ (sK _ E9) (fun hHeld => ?_)
        clear hK K hHeld
        try simp only [Act.put, List.setIfInBounds_toArray, List.set_cons_zero, List.set_cons_succ]
        refine wpAnyH_ready (rs := [3]) (by kernel_rfl) (by simp) ?_
        refine AllReadyH.cons rfl (fun K hK => ?_) ?_
        · go_simp
          refine (OF.out _ _ R_9).mono ?_
          rintro e W10 ⟨rfl, hb⟩
          have E10 := E9.trans (hb.mono E9.size)
          have b_10 := b_9.next hb
          have s_10 := s_9.next hb
          have R_10 := R_9.kept hb
          clear hb
          go_wp2_with fail
          refine hK.out _ _ (sK _ E10) (fun hHeld => ?_)
          clear hK K hHeld
          try simp only [Act.put, List.setIfInBounds_toArray, List.set_cons_zero, List.set_cons_succ]
          refine wpAnyH_ready (rs := [4]) (by kernel_rfl) (by simp) ?_
          refine AllReadyH.cons rfl (fun K hK => ?_) ?_
          · go_simp
            refine (SE.out _).mono ?_
            rintro e W11 ⟨rfl, hb⟩
            have E11 := E10.trans (hb.mono E10.size)
            have b_11 := b_10.next hb
            have s_11 := s_10.next hb
            have R_11 := R_10.kept hb
            clear hb
            go_wp2_with fail
            refine hK.out _ _ (sK _ E11) (fun hHeld => ?_)
            clear hK K hHeld
            try simp only [Act.put, List.setIfInBounds_toArray, List.set_cons_zero, List.set_cons_succ]
            refine wpAnyH_ready (rs := [6]) (by kernel_rfl) (by simp) ?_
            refine AllReadyH.cons rfl (fun K hK => ?_) ?_
            · have s0 := s_11.cell 0
              have s1 := s_11.cell 1
              have s2 := s_11.cell 2
              have s3 := s_11.cell 3
              have s4 := s_11.cell 4
              have s5 := s_11.cell 5
              have f0 := s_11.frozen 0
              have f1 := s_11.frozen 1
              have f2 := s_11.frozen 2
              have f3 := s_11.frozen 3
              have f4 := s_11.frozen 4
              have f5 := s_11.frozen 5
              go_simp
              have E12 : Below _ _ (World.setCell (World.setCell (World.setCell (World.setCell (World.setCell (World.setCell W11 ⟨g9, 0, none⟩ (.int .u64 w0)) ⟨g9, 1, none⟩ (.int .u64 w1)) ⟨g9, 2, none⟩ (.int .u64 u0)) ⟨g9, 3, none⟩ (.int .u64 u1)) ⟨g9, 4, none⟩ (.int .u64 d0)) ⟨g9, 5, none⟩ (.int .u64 d1)) := ((((((E11.setCell ge_s _).setCell ge_s _).setCell ge_s _).setCell ge_s _).setCell ge_s _).setCell ge_s _)
              have b_12 : Blk (World.setCell (World.setCell (World.setCell (World.setCell (World.setCell (World.setCell W11 ⟨g9, 0, none⟩ (.int .u64 w0)) ⟨g9, 1, none⟩ (.int .u64 w1)) ⟨g9, 2, none⟩ (.int .u64 u0)) ⟨g9, 3, none⟩ (.int .u64 u1)) ⟨g9, 4, none⟩ (.int .u64 d0)) ⟨g9, 5, none⟩ (.int .u64 d1)) g1 _ _ := ((((((b_11.far (by show g1 ≠ g9; omega) _).far (by show g1 ≠ g9; omega) _).far (by show g1 ≠ g9; omega) _).far (by show g1 ≠ g9; omega) _).far (by show g1 ≠ g9; omega) _).far (by show g1 ≠ g9; omega) _)
              have s_12 : Blk (World.setCell (World.setCell (World.setCell (World.setCell (World.setCell (World.setCell W11 ⟨g9, 0, none⟩ (.int .u64 w0)) ⟨g9, 1, none⟩ (.int .u64 w1)) ⟨g9, 2, none⟩ (.int .u64 u0)) ⟨g9, 3, none⟩ (.int .u64 u1)) ⟨g9, 4, none⟩ (.int .u64 d0)) ⟨g9, 5, none⟩ (.int .u64 d1)) g9 _ #[.int .u64 w0, .int .u64 w1, .int .u64 u0, .int .u64 u1, .int .u64 d0, .int .u64 d1] := ((((((s_11.set 0 (.int .u64 w0)).set 1 (.int .u64 w1)).set 2 (.int .u64 u0)).set 3 (.int .u64 u1)).set 4 (.int .u64 d0)).set 5 (.int .u64 d1))
              clear s0 s1 s2 s3 s4 s5 f0 f1 f2 f3 f4 f5
              obtain ⟨W12, hV⟩ : ∃ V, (World.setCell (World.setCell (World.setCell (World.setCell (World.setCell (World.setCell W11 ⟨g9, 0, none⟩ (.int .u64 w0)) ⟨g9, 1, none⟩ (.int .u64 w1)) ⟨g9, 2, none⟩ (.int .u64 u0)) ⟨g9, 3, none⟩ (.int .u64 u1)) ⟨g9, 4, none⟩ (.int .u64 d0)) ⟨g9, 5, none⟩ (.int .u64 d1)) = V := ⟨_, rfl⟩
              rw [hV]
              rw [hV] at E12 b_12 s_12
              clear hV
              refine hK.out _ _ (sK _ E12) (fun hHeld => ?_)
              clear hK K hHeld
              try simp only [Act.put, List.setIfInBounds_toArray, List.set_cons_zero, List.set_cons_succ]
              refine wpAnyH_done (by kernel_rfl) ?_ _
              exact ⟨rfl, g9, g1, rfl, E12, s_12⟩
            exact AllReadyH.nil
          exact AllReadyH.nil
        exact AllReadyH.nil
      exact AllReadyH.nil
    refine AllReadyH.cons rfl (fun K hK => ?_) ?_
    · go_simp
      have E13 := E0.alloc E0.size (.cells #[.int .u64 0, .int .u64 0, .int .u64 0, .int .u64 0, .int .u64 0, .int .u64 0] 32)
      have s_13 : Blk (World.alloc W0 (.cells #[.int .u64 0, .int .u64 0, .int .u64 0, .int .u64 0, .int .u64 0, .int .u64 0] 32)) W0.heap.size 32 #[.int .u64 0, .int .u64 0, .int .u64 0, .int .u64 0, .int .u64 0, .int .u64 0] := Blk.new _ _ _
      have ge_s := E0.size
      obtain ⟨W13, hV⟩ : ∃ V, World.alloc W0 (.cells #[.int .u64 0, .int .u64 0, .int .u64 0, .int .u64 0, .int .u64 0, .int .u64 0] 32) = V := ⟨_, rfl⟩
      obtain ⟨g13, hg⟩ : ∃ g, W0.heap.size = g := ⟨_, rfl⟩
      rw [hV, hg]
      simp only [hV, hg] at E13 s_13 ge_s
      clear hV hg
      refine hK.out _ _ (sK _ E13) (fun hHeld => ?_)
      clear hK K hHeld
      try simp only [Act.put, List.setIfInBounds_toArray, List.set_cons_zero, List.set_cons_succ]
      refine wpAnyH_ready (rs := [2]) (by kernel_rfl) (by simp) ?_
      refine AllReadyH.cons rfl (fun K hK => ?_) ?_
      · go_simp
        have E14 := E13.alloc E13.size (.cells #[.int .i64 3] 3)
        have lt_s_14 := s_13.lt
        have s_14 := s_13.alloc (.cells #[.int .i64 3] 3)
        have b_14 : Blk (World.alloc W13 (.cells #[.int .i64 3] 3)) W13.heap.size 3 #[.int .i64 3] := Blk.new _ _ _
        have ge_b := E13.size
        have R_14 := rd_3 W13
        obtain ⟨W14, hV⟩ : ∃ V, World.alloc W13 (.cells #[.int .i64 3] 3) = V := ⟨_, rfl⟩
        obtain ⟨g14, hg⟩ : ∃ g, W13.heap.size = g := ⟨_, rfl⟩
        rw [hV, hg]
        simp only [hV, hg] at E14 s_14 lt_s_14 b_14 ge_b R_14
        clear hV hg
        refine hK.out _ _ (sK _ E14) (fun hHeld => ?_)
        clear hK K hHeld
        try simp only [Act.put, List.setIfInBounds_toArray, List.set_cons_zero, List.set_cons_succ]
        refine wpAnyH_ready (rs := [3]) (by kernel_rfl) (by simp) ?_
        refine AllReadyH.cons rfl (fun K hK => ?_) ?_
        · go_simp
          refine (OF.out _ _ R_14).mono ?_
          rintro e W15 ⟨rfl, hb⟩
          have E15 := E14.trans (hb.mono E14.size)
          have s_15 := s_14.next hb
          have b_15 := b_14.next hb
          have R_15 := R_14.kept hb
          clear hb
          go_wp2_with fail
          refine hK.out _ _ (sK _ E15) (fun hHeld => ?_)
          clear hK K hHeld
          try simp only [Act.put, List.setIfInBounds_toArray, List.set_cons_zero, List.set_cons_succ]
          refine wpAnyH_ready (rs := [4]) (by kernel_rfl) (by simp) ?_
          refine AllReadyH.cons rfl (fun K hK => ?_) ?_
          · go_simp
            refine (SE.out _).mono ?_
            rintro e W16 ⟨rfl, hb⟩
            have E16 := E15.trans (hb.mono E15.size)
            have s_16 := s_15.next hb
            have b_16 := b_15.next hb
            have R_16 := R_15.kept hb
            clear hb
            go_wp2_with fail
            refine hK.out _ _ (sK _ E16) (fun hHeld => ?_)
            clear hK K hHeld
            try simp only [Act.put, List.setIfInBounds_toArray, List.set_cons_zero, List.set_cons_succ]
            refine wpAnyH_ready (rs := [6]) (by kernel_rfl) (by simp) ?_
            refine AllReadyH.cons rfl (fun K hK => ?_) ?_
            · have s0 := s_16.cell 0
              have s1 := s_16.cell 1
              have s2 := s_16.cell 2
              have s3 := s_16.cell 3
              have s4 := s_16.cell 4
              have s5 := s_16.cell 5
              have f0 := s_16.frozen 0
              have f1 := s_16.frozen 1
              have f2 := s_16.frozen 2
              have f3 := s_16.frozen 3
              have f4 := s_16.frozen 4
              have f5 := s_16.frozen 5
              go_simp
              have E17 : Below _ _ (World.setCell (World.setCell (World.setCell (World.setCell (World.setCell (World.setCell W16 ⟨g13, 0, none⟩ (.int .u64 w0)) ⟨g13, 1, none⟩ (.int .u64 w1)) ⟨g13, 2, none⟩ (.int .u64 u0)) ⟨g13, 3, none⟩ (.int .u64 u1)) ⟨g13, 4, none⟩ (.int .u64 d0)) ⟨g13, 5, none⟩ (.int .u64 d1)) := ((((((E16.setCell ge_s _).setCell ge_s _).setCell ge_s _).setCell ge_s _).setCell ge_s _).setCell ge_s _)
              have s_17 : Blk (World.setCell (World.setCell (World.setCell (World.setCell (World.setCell (World.setCell W16 ⟨g13, 0, none⟩ (.int .u64 w0)) ⟨g13, 1, none⟩ (.int .u64 w1)) ⟨g13, 2, none⟩ (.int .u64 u0)) ⟨g13, 3, none⟩ (.int .u64 u1)) ⟨g13, 4, none⟩ (.int .u64 d0)) ⟨g13, 5, none⟩ (.int .u64 d1)) g13 _ #[.int .u64 w0, .int .u64 w1, .int .u64 u0, .int .u64 u1, .int .u64 d0, .int .u64 d1] := ((((((s_16.set 0 (.int .u64 w0)).set 1 (.int .u64 w1)).set 2 (.int .u64 u0)).set 3 (.int .u64 u1)).set 4 (.int .u64 d0)).set 5 (.int .u64 d1))
              have b_17 : Blk (World.setCell (World.setCell (World.setCell (World.setCell (World.setCell (World.setCell W16 ⟨g13, 0, none⟩ (.int .u64 w0)) ⟨g13, 1, none⟩ (.int .u64 w1)) ⟨g13, 2, none⟩ (.int .u64 u0)) ⟨g13, 3, none⟩ (.int .u64 u1)) ⟨g13, 4, none⟩ (.int .u64 d0)) ⟨g13, 5, none⟩ (.int .u64 d1)) g14 _ _ := ((((((b_16.far (by show g14 ≠ g13; omega) _).far (by show g14 ≠ g13; omega) _).far (by show g14 ≠ g13; omega) _).far (by show g14 ≠ g13; omega) _).far (by show g14 ≠ g13; omega) _).far (by show g14 ≠ g13; omega) _)
              clear s0 s1 s2 s3 s4 s5 f0 f1 f2 f3 f4 f5
              obtain ⟨W17, hV⟩ : ∃ V, (World.setCell (World.setCell (World.setCell (World.setCell (World.setCell (World.setCell W16 ⟨g13, 0, none⟩ (.int .u64 w0)) ⟨g13, 1, none⟩ (.int .u64 w1)) ⟨g13, 2, none⟩ (.int .u64 u0)) ⟨g13, 3, none⟩ (.int .u64 u1)) ⟨g13, 4, none⟩ (.int .u64 d0)) ⟨g13, 5, none⟩ (.int .u64 d1)) = V := ⟨_, rfl⟩
              rw [hV]
              rw [hV] at E17 s_17 b_17
              clear hV
              refine hK.out _ _ (sK _ E17) (fun hHeld => ?_)
              clear hK K hHeld
              try simp only [Act.put, List.setIfInBounds_toArray, List.set_cons_zero, List.set_cons_succ]
              refine wpAnyH_done (by kernel_rfl) ?_ _
              exact ⟨rfl, g13, g14, rfl, E17, s_17⟩
            exact AllReadyH.nil
          exact AllReadyH.nil
        exact AllReadyH.nil
      exact AllReadyH.nil
    exact AllReadyH.nil
  obtain ⟨rfl, g, h, rfl, EW, BW⟩ := hq
  refine hK0 _ _ ?_
  clear hK0
  have C0 := Lib.hid (A0.next EW)
  have B0 := Lib.hid BW
  have E0 := Lib.hid (AE.trans (EW.mono AE.size))
  clear A0 AE EW BW sK
  obtain ⟨s0, s1, s2, s3, s4, s5⟩ := B0.out.six
  obtain ⟨k0, k1, k2, k3, k4, k5⟩ := C0.out.six
  go_wp2_with fail
  refine (WY.out _).mono ?_
  rintro e v1 ⟨rfl, hb⟩
  have C1 := Lib.hid (C0.out.next hb)
  have B1 := Lib.hid (B0.out.next hb)
  have E1 := Lib.hid (E0.out.trans (hb.mono E0.out.size))
  clear hb C0 B0 E0 s0 s1 s2 s3 s4 s5 k0 k1 k2 k3 k4 k5
  obtain ⟨s0, s1, s2, s3, s4, s5⟩ := B1.out.six
  obtain ⟨k0, k1, k2, k3, k4, k5⟩ := C1.out.six
  go_wp2_with fail
  refine (S3.out _).mono ?_
  rintro e v2 ⟨rfl, hb⟩
  have C2 := Lib.hid (C1.out.next hb)
  have B2 := Lib.hid (B1.out.next hb)
  have E2 := Lib.hid (E1.out.trans (hb.mono E1.out.size))
  clear hb C1 B1 E1 s0 s1 s2 s3 s4 s5 k0 k1 k2 k3 k4 k5
  obtain ⟨s0, s1, s2, s3, s4, s5⟩ := B2.out.six
  obtain ⟨k0, k1, k2, k3, k4, k5⟩ := C2.out.six
  go_wp2_with fail
  refine (S2.out _).mono ?_
  rintro e v3 ⟨rfl, hb⟩
  have C3 := Lib.hid (C2.out.next hb)
  have B3 := Lib.hid (B2.out.next hb)
  have E3 := Lib.hid (E2.out.trans (hb.mono E2.out.size))
  clear hb C2 B2 E2 s0 s1 s2 s3 s4 s5 k0 k1 k2 k3 k4 k5
  obtain ⟨s0, s1, s2, s3, s4, s5⟩ := B3.out.six
  obtain ⟨k0, k1, k2, k3, k4, k5⟩ := C3.out.six
  go_wp2_with fail
  go_ret
  exact ⟨rfl, E3.out⟩
end Go.Proofs.Ytdcollehdhkngaa
