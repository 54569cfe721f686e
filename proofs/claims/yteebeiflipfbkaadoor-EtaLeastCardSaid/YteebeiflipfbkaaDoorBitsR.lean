/- Contracts of the document's sets: Both. -/
import Derived.Test.YteebeiflipfbkaaDoorRows
import Derived.Test.YteebeiflipfbkaaDoorRowKit
import Derived.Test.YteebeiflipfbkaaDoorBlocks
import Derived.Test.YteebeiflipfbkaaDoorBitsMath
import Derived.Test.YteebeiflipfbkaaDoorBitsA2
import Derived.Test.YteebeiflipfbkaaDoorBitsD
import Derived.Test.YteebeiflipfbkaaDoorBitsK
import Derived.Test.YteebeiflipfbkaaDoorBitsO
import Derived.Test.YteebeiflipfbkaaDoorBitsP
import Derived.Test.YteebeiflipfbkaaDoorBitsQ
import Derived.WalkKit
import Derived.IntWalk
import Derived.Lib.Hide
import Derived.WalkSpells
import Derived.WalkLawsBesides
import Derived.Laws.CopyOwn
import Derived.Deep.WholeRow
import Derived.Deep.QuietTactic
import Derived.Deep.LoopGhost
import Derived.Deep.RegionHeld3
import Derived.BigQuiet
namespace Go.Proofs.YteebeiflipfbkaaDoor
open Go.RowKit
set_option linter.unusedSimpArgs false
set_option linter.unusedVariables false
structure B0 (X W : World) : Prop where
  e : Below X.heap.size X W
structure B1 (X W : World) (g : Nat) (cs : Array Value) : Prop where
  e : Below X.heap.size X W
  b1 : Blk W g 45 cs
  n1 : X.heap.size ≤ g
structure B2 (X W : World) (g h : Nat) (cs ds : Array Value) : Prop where
  e : Below X.heap.size X W
  b1 : Blk W g 45 cs
  b2 : Blk W h 45 ds
  n1 : X.heap.size ≤ g
  n2 : X.heap.size ≤ h
  ne : g ≠ h
theorem B0.drew {X W : World} (h : B0 X W) : B0 X W.drew := ⟨h.e.drew⟩
theorem B0.call {X W V : World} (h : B0 X W) (hb : Below W.heap.size W V) : B0 X V := ⟨h.e.trans (hb.mono h.e.size)⟩
theorem B0.alloc {X W : World} (h : B0 X W) (cs : Array Value) : B1 X (W.alloc (.cells cs 45)) W.heap.size cs := ⟨h.e.alloc h.e.size _, Blk.new _ _ _, h.e.size⟩
theorem B1.call {X W V : World} {g : Nat} {cs : Array Value} (h : B1 X W g cs) (hb : Below W.heap.size W V) : B1 X V g cs := ⟨h.e.trans (hb.mono h.e.size), h.b1.next hb, h.n1⟩
theorem B1.alloc {X W : World} {g : Nat} {cs : Array Value} (h : B1 X W g cs) (ds : Array Value) : B2 X (W.alloc (.cells ds 45)) g W.heap.size cs ds :=
  ⟨h.e.alloc h.e.size _, h.b1.alloc _, Blk.new _ _ _, h.n1, h.e.size, by have := h.b1.lt; omega⟩
theorem B2.swap {X W : World} {g h : Nat} {cs ds : Array Value} (H : B2 X W g h cs ds) : B2 X W h g ds cs := ⟨H.e, H.b2, H.b1, H.n2, H.n1, H.ne.symm⟩
theorem B2.call {X W V : World} {g h : Nat} {cs ds : Array Value} (H : B2 X W g h cs ds) (hb : Below W.heap.size W V) : B2 X V g h cs ds := ⟨H.e.trans (hb.mono H.e.size), H.b1.next hb, H.b2.next hb, H.n1, H.n2, H.ne⟩
theorem B2.set1 {X W : World} {g h : Nat} {cs ds : Array Value} (H : B2 X W g h cs ds) (rs : Array Value) : B2 X (W.setRow g rs) g h rs ds :=
  ⟨below_setRow H.e H.n1 _, setRow_heap _ _ _ _ _ _ H.b1, H.b2.farRow H.ne.symm, H.n1, H.n2, H.ne⟩
theorem B2.set2 {X W : World} {g h : Nat} {cs ds : Array Value} (H : B2 X W g h cs ds) (rs : Array Value) : B2 X (W.setRow h rs) g h cs rs :=
  ⟨below_setRow H.e H.n2 _, H.b1.farRow H.ne, setRow_heap _ _ _ _ _ _ H.b2, H.n1, H.n2, H.ne⟩
/-- in both (0), in one (1), in the first one alone -/
def bothF (F G : Nat → Bool) (k : Int) (j : Nat) : Bool := if k = 0 then F j && G j else if k = 1 then F j || G j else F j && !G j
structure B3 (w X W : World) (g h z : Nat) (F G R : Nat → Bool) (k : Nat) : Prop where
  b : B2 X W g h (rowC F 128) (rowC G 128)
  r : Blk W (w.heap.size + 1 + 1) 38 #[.int .u64 0, .int .u64 0]
  c : Blk W z 45 (rowC R k)
  n : w.heap.size + 1 + 1 < z ∧ X.heap.size ≤ z ∧ g ≠ z ∧ h ≠ z
theorem B3.step {w X W : World} {g h z : Nat} {F G R : Nat → Bool} {k : Nat} (H : B3 w X W g h z F G R k) (hk : k < 128) {b : Bool} (hb : b = R k) : B3 w X (W.setCell ⟨z, k, none⟩ (.bool b)) g h z F G R (k + 1) :=
  ⟨⟨H.b.e.setCell H.n.2.1 _, H.b.b1.far H.n.2.2.1 _, H.b.b2.far H.n.2.2.2 _, H.b.n1, H.b.n2, H.b.ne⟩, H.r.far (by show w.heap.size + 1 + 1 ≠ z; have := H.n.1; omega) _, by rw [← rowC_set R k b hk hb]; exact H.c.set k _, H.n⟩
set_option maxRecDepth 100000 in
set_option maxHeartbeats 4000000 in
theorem both_any (F G : Nat → Bool) (k : Int) (w : World) :
    Calls Tryd.prog 6 #[setV F, setV G, .int .i64 k] w fun e w' => e = .returned (setV (bothF F G k)) ∧ Below w.heap.size w w' := by
  have RF := row_set F
  have RG := row_set G
  have MK := make_set (bothF F G k)
  have HZ := zc_run
  have HC := zc_cells
  unfold setV at RF RG MK ⊢
  obtain ⟨x, hX⟩ : ∃ x, wordX F = x := ⟨_, rfl⟩
  obtain ⟨y, hY⟩ : ∃ y, wordY F = y := ⟨_, rfl⟩
  obtain ⟨x', hX'⟩ : ∃ x, wordX G = x := ⟨_, rfl⟩
  obtain ⟨y', hY'⟩ : ∃ y, wordY G = y := ⟨_, rfl⟩
  obtain ⟨x2, hX2⟩ : ∃ x, wordX (bothF F G k) = x := ⟨_, rfl⟩
  obtain ⟨y2, hY2⟩ : ∃ y, wordY (bothF F G k) = y := ⟨_, rfl⟩
  rw [hX, hY] at RF ⊢
  rw [hX', hY'] at RG ⊢
  rw [hX2, hY2] at MK ⊢
  have RFh := Lib.hid RF
  have RGh := Lib.hid RG
  have MKh := Lib.hid MK
  clear hX hY hX' hY' hX2 hY2 RF RG MK
  go_enter Tryd.func6, Tryd.ntmps6
  go_wp2_with fail
  rename_i hK0
  obtain ⟨X0, hX0⟩ : ∃ X, ((w.alloc (.cells #[.int .u64 x, .int .u64 y] 38)).alloc (.cells #[.int .u64 x', .int .u64 y'] 38)).alloc (.cells #[.int .u64 0, .int .u64 0] 38) = X := ⟨_, rfl⟩
  have A0 : Blk X0 w.heap.size 38 #[.int .u64 x, .int .u64 y] := by rw [← hX0]; exact ((Blk.new w _ _).alloc _).alloc _
  have A1 : Blk X0 (w.heap.size + 1) 38 #[.int .u64 x', .int .u64 y'] := by rw [← hX0]; have := (Blk.new (w.alloc (.cells #[.int .u64 x, .int .u64 y] 38)) #[.int .u64 x', .int .u64 y'] 38).alloc (.cells #[.int .u64 0, .int .u64 0] 38); rwa [World.size_alloc] at this
  have A2 : Blk X0 (w.heap.size + 1 + 1) 38 #[.int .u64 0, .int .u64 0] := by rw [← hX0]; have := Blk.new ((w.alloc (.cells #[.int .u64 x, .int .u64 y] 38)).alloc (.cells #[.int .u64 x', .int .u64 y'] 38)) #[.int .u64 0, .int .u64 0] 38; rwa [World.size_alloc, World.size_alloc] at this
  have AE : Below w.heap.size w X0 := by rw [← hX0]; exact (((Below.refl w.heap.size w).alloc (Nat.le_refl _) _).alloc (by simp) _).alloc (by simp; omega) _
  have AS : X0.heap.size = w.heap.size + 1 + 1 + 1 := by rw [← hX0]; simp
  rw [hX0]
  clear hX0
  have sK : ∀ W, Below X0.heap.size X0 W → W.cell? ⟨w.heap.size, 0, none⟩ = some (.int .u64 x) ∧ W.cell? ⟨w.heap.size, 1, none⟩ = some (.int .u64 y) ∧ W.cell? ⟨w.heap.size + 1, 0, none⟩ = some (.int .u64 x') ∧ W.cell? ⟨w.heap.size + 1, 1, none⟩ = some (.int .u64 y') :=
    fun W hb => ⟨bkeep hb A0.two.1, bkeep hb A0.two.2.1, bkeep hb A1.two.1, bkeep hb A1.two.2.1⟩
  have H0 : B0 X0 X0 := ⟨Below.refl _ _⟩
  refine Code.wp_mono (Q := fun e a W => e = .normal ∧ ∃ g h, a = { tmps := #[.agg #[.int .u64 x, .int .u64 y], .agg #[.int .u64 x', .int .u64 y'], .int .i64 k, .pointer (some ⟨w.heap.size, 0, none⟩), .pointer (some ⟨w.heap.size + 1, 0, none⟩), undef, .pointer (some ⟨w.heap.size + 1 + 1, 0, none⟩), .pointer (some ⟨g, 0, none⟩), .pointer (some ⟨h, 0, none⟩), undef, undef, .agg #[.int .u64 x, .int .u64 y], .agg (rowC F 128), .agg #[.int .u64 x', .int .u64 y'], .agg (rowC G 128), undef, undef, undef, undef, undef, undef, undef, undef, undef, undef, undef, undef, undef, undef, undef, undef, undef, undef, undef, undef, undef, undef, undef, undef, undef, undef, undef, undef, undef, undef, undef, undef, undef, undef, undef, undef, undef, undef, undef, undef, undef, undef], defers := [] } ∧ B2 X0 W g h (rowC F 128) (rowC G 128)) (fun e a W hq => ?_) ?_
  case refine_2 =>
    refine wp_region_held_drew (S := fun W => W.cell? ⟨w.heap.size, 0, none⟩ = some (.int .u64 x) ∧ W.cell? ⟨w.heap.size, 1, none⟩ = some (.int .u64 y) ∧ W.cell? ⟨w.heap.size + 1, 0, none⟩ = some (.int .u64 x') ∧ W.cell? ⟨w.heap.size + 1, 1, none⟩ = some (.int .u64 y')) (by kernel_rfl) (sK _ H0.drew.e) (fun hHeld => ?_)
    clear hHeld
    have H9 := H0.drew
    obtain ⟨W0, hV⟩ : ∃ V, X0.drew = V := ⟨_, rfl⟩
    rw [hV] at H9 ⊢
    clear hV
    refine wpAnyH_take (i := 0) (v := .agg #[.int .u64 x, .int .u64 y]) rfl (by kernel_rfl) (by kernel_rfl) (by kernel_rfl) (fun _ _ _ h => nomatch h.1) (Or.inl ⟨by rfl, ?_⟩) (sK _ H9.e) ?_
    · intro w hSw; (try dsimp only at hSw); go_simp
    simp only [Act.put, List.setIfInBounds_toArray, List.set_cons_zero, List.set_cons_succ]
    refine wpAnyH_take (i := 2) (v := .agg #[.int .u64 x', .int .u64 y']) rfl (by kernel_rfl) (by kernel_rfl) (by kernel_rfl) (fun _ _ _ h => nomatch h.1) (Or.inl ⟨by rfl, ?_⟩) (sK _ H9.e) ?_
    · intro w hSw; (try dsimp only at hSw); go_simp
    simp only [Act.put, List.setIfInBounds_toArray, List.set_cons_zero, List.set_cons_succ]
    refine wpAnyH_ready (rs := [1, 4, 5]) (by kernel_rfl) (by simp) ?_
    refine AllReadyH.cons rfl (fun K hK => ?_) ?_
    · go_simp
      refine (RFh.out _).mono ?_
      rintro e W1 ⟨rfl, hb⟩
      have H1 := H9.call hb
      clear hb
      go_wp2_with fail
      refine hK.out _ _ (sK _ H1.e) (fun hHeld => ?_)
      clear hK K hHeld
      try simp only [Act.put, List.setIfInBounds_toArray, List.set_cons_zero, List.set_cons_succ]
      refine wpAnyH_ready (rs := [3, 4, 5]) (by kernel_rfl) (by simp) ?_
      refine AllReadyH.cons rfl (fun K hK => ?_) ?_
      · go_simp
        refine (RGh.out _).mono ?_
        rintro e W2 ⟨rfl, hb⟩
        have H2 := H1.call hb
        clear hb
        go_wp2_with fail
        refine hK.out _ _ (sK _ H2.e) (fun hHeld => ?_)
        clear hK K hHeld
        try simp only [Act.put, List.setIfInBounds_toArray, List.set_cons_zero, List.set_cons_succ]
        refine wpAnyH_ready (rs := [4, 5]) (by kernel_rfl) (by simp) ?_
        refine AllReadyH.cons rfl (fun K hK => ?_) ?_
        · go_simp
          have H3 := H2.alloc zc
          obtain ⟨W3, hV⟩ : ∃ V, World.alloc W2 (.cells zc 45) = V := ⟨_, rfl⟩
          obtain ⟨g3, hg⟩ : ∃ g, W2.heap.size = g := ⟨_, rfl⟩
          rw [hV, hg] at H3
          rw [hV, hg]
          clear hV hg
          refine hK.out _ _ (sK _ H3.e) (fun hHeld => ?_)
          clear hK K hHeld
          try simp only [Act.put, List.setIfInBounds_toArray, List.set_cons_zero, List.set_cons_succ]
          refine wpAnyH_ready (rs := [5]) (by kernel_rfl) (by simp) ?_
          refine AllReadyH.cons rfl (fun K hK => ?_) ?_
          · go_simp
            have H4 := H3.alloc zc
            obtain ⟨W4, hV⟩ : ∃ V, World.alloc W3 (.cells zc 45) = V := ⟨_, rfl⟩
            obtain ⟨g4, hg⟩ : ∃ g, W3.heap.size = g := ⟨_, rfl⟩
            rw [hV, hg] at H4
            rw [hV, hg]
            clear hV hg
            refine hK.out _ _ (sK _ H4.e) (fun hHeld => ?_)
            clear hK K hHeld
            try simp only [Act.put, List.setIfInBounds_toArray, List.set_cons_zero, List.set_cons_succ]
            refine wpAnyH_ready (rs := [6]) (by kernel_rfl) (by simp) ?_
            refine AllReadyH.cons rfl (fun K hK => ?_) ?_
            · refine step_row rfl 45 (.tmp 7) (.tmp 12) rfl g3 (rowC F 128) rfl rfl 45 zc H4.b1 (by rw [rowC_size]; exact info59) (by rw [rowC_size, zsize]) (rowC_all _ _) ?_
              have H5 := H4.set1 (rowC F 128)
              obtain ⟨W5, hV⟩ : ∃ V, World.setRow W4 g3 (rowC F 128) = V := ⟨_, rfl⟩
              rw [hV] at H5
              rw [hV]
              clear hV
              refine hK.out _ _ (sK _ H5.e) (fun hHeld => ?_)
              clear hK K hHeld
              try simp only [Act.put, List.setIfInBounds_toArray, List.set_cons_zero, List.set_cons_succ]
              refine wpAnyH_ready (rs := [7]) (by kernel_rfl) (by simp) ?_
              refine AllReadyH.cons rfl (fun K hK => ?_) ?_
              · refine step_row rfl 45 (.tmp 8) (.tmp 14) rfl g4 (rowC G 128) rfl rfl 45 zc H5.b2 (by rw [rowC_size]; exact info59) (by rw [rowC_size, zsize]) (rowC_all _ _) ?_
                have H6 := H5.set2 (rowC G 128)
                obtain ⟨W6, hV⟩ : ∃ V, World.setRow W5 g4 (rowC G 128) = V := ⟨_, rfl⟩
                rw [hV] at H6
                rw [hV]
                clear hV
                refine hK.out _ _ (sK _ H6.e) (fun hHeld => ?_)
                clear hK K hHeld
                try simp only [Act.put, List.setIfInBounds_toArray, List.set_cons_zero, List.set_cons_succ]
                refine wpAnyH_done (by kernel_rfl) ?_ _
                exact ⟨rfl, g3, g4, rfl, H6⟩
              exact AllReadyH.nil
            exact AllReadyH.nil
          exact AllReadyH.nil
        refine AllReadyH.cons rfl (fun K hK => ?_) ?_
        · go_simp
          have H7 := H2.alloc zc
          obtain ⟨W7, hV⟩ : ∃ V, World.alloc W2 (.cells zc 45) = V := ⟨_, rfl⟩
          obtain ⟨g7, hg⟩ : ∃ g, W2.heap.size = g := ⟨_, rfl⟩
          rw [hV, hg] at H7
          rw [hV, hg]
          clear hV hg
          refine hK.out _ _ (sK _ H7.e) (fun hHeld => ?_)
          clear hK K hHeld
          try simp only [Act.put, List.setIfInBounds_toArray, List.set_cons_zero, List.set_cons_succ]
          refine wpAnyH_ready (rs := [4]) (by kernel_rfl) (by simp) ?_
          refine AllReadyH.cons rfl (fun K hK => ?_) ?_
          · go_simp
            have H8 := (H7.alloc zc).swap
            obtain ⟨W8, hV⟩ : ∃ V, World.alloc W7 (.cells zc 45) = V := ⟨_, rfl⟩
            obtain ⟨g8, hg⟩ : ∃ g, W7.heap.size = g := ⟨_, rfl⟩
            rw [hV, hg] at H8
            rw [hV, hg]
            clear hV hg
            refine hK.out _ _ (sK _ H8.e) (fun hHeld => ?_)
            clear hK K hHeld
            try simp only [Act.put, List.setIfInBounds_toArray, List.set_cons_zero, List.set_cons_succ]
            refine wpAnyH_ready (rs := [6]) (by kernel_rfl) (by simp) ?_
            refine AllReadyH.cons rfl (fun K hK => ?_) ?_
            · refine step_row rfl 45 (.tmp 7) (.tmp 12) rfl g8 (rowC F 128) rfl rfl 45 zc H8.b1 (by rw [rowC_size]; exact info59) (by rw [rowC_size, zsize]) (rowC_all _ _) ?_
              have H9 := H8.set1 (rowC F 128)
              obtain ⟨W9, hV⟩ : ∃ V, World.setRow W8 g8 (rowC F 128) = V := ⟨_, rfl⟩
              rw [hV] at H9
              rw [hV]
              clear hV
              refine hK.out _ _ (sK _ H9.e) (fun hHeld => ?_)
              clear hK K hHeld
              try simp only [Act.put, List.setIfInBounds_toArray, List.set_cons_zero, List.set_cons_succ]
              refine wpAnyH_ready (rs := [7]) (by kernel_rfl) (by simp) ?_
              refine AllReadyH.cons rfl (fun K hK => ?_) ?_
              · refine step_row rfl 45 (.tmp 8) (.tmp 14) rfl g7 (rowC G 128) rfl rfl 45 zc H9.b2 (by rw [rowC_size]; exact info59) (by rw [rowC_size, zsize]) (rowC_all _ _) ?_
                have H10 := H9.set2 (rowC G 128)
                obtain ⟨W10, hV⟩ : ∃ V, World.setRow W9 g7 (rowC G 128) = V := ⟨_, rfl⟩
                rw [hV] at H10
                rw [hV]
                clear hV
                refine hK.out _ _ (sK _ H10.e) (fun hHeld => ?_)
                clear hK K hHeld
                try simp only [Act.put, List.setIfInBounds_toArray, List.set_cons_zero, List.set_cons_succ]
                refine wpAnyH_done (by kernel_rfl) ?_ _
                exact ⟨rfl, g8, g7, rfl, H10⟩
              exact AllReadyH.nil
            exact AllReadyH.nil
          exact AllReadyH.nil
        exact AllReadyH.nil
      refine AllReadyH.cons rfl (fun K hK => ?_) ?_
      · go_simp
        have H11 := H1.alloc zc
        obtain ⟨W11, hV⟩ : ∃ V, World.alloc W1 (.cells zc 45) = V := ⟨_, rfl⟩
        obtain ⟨g11, hg⟩ : ∃ g, W1.heap.size = g := ⟨_, rfl⟩
        rw [hV, hg] at H11
        rw [hV, hg]
        clear hV hg
        refine hK.out _ _ (sK _ H11.e) (fun hHeld => ?_)
        clear hK K hHeld
        try simp only [Act.put, List.setIfInBounds_toArray, List.set_cons_zero, List.set_cons_succ]
        refine wpAnyH_ready (rs := [3, 5]) (by kernel_rfl) (by simp) ?_
        refine AllReadyH.cons rfl (fun K hK => ?_) ?_
        · go_simp
          refine (RGh.out _).mono ?_
          rintro e W12 ⟨rfl, hb⟩
          have H12 := H11.call hb
          clear hb
          go_wp2_with fail
          refine hK.out _ _ (sK _ H12.e) (fun hHeld => ?_)
          clear hK K hHeld
          try simp only [Act.put, List.setIfInBounds_toArray, List.set_cons_zero, List.set_cons_succ]
          refine wpAnyH_ready (rs := [5]) (by kernel_rfl) (by simp) ?_
          refine AllReadyH.cons rfl (fun K hK => ?_) ?_
          · go_simp
            have H13 := H12.alloc zc
            obtain ⟨W13, hV⟩ : ∃ V, World.alloc W12 (.cells zc 45) = V := ⟨_, rfl⟩
            obtain ⟨g13, hg⟩ : ∃ g, W12.heap.size = g := ⟨_, rfl⟩
            rw [hV, hg] at H13
            rw [hV, hg]
            clear hV hg
            refine hK.out _ _ (sK _ H13.e) (fun hHeld => ?_)
            clear hK K hHeld
            try simp only [Act.put, List.setIfInBounds_toArray, List.set_cons_zero, List.set_cons_succ]
            refine wpAnyH_ready (rs := [6]) (by kernel_rfl) (by simp) ?_
            refine AllReadyH.cons rfl (fun K hK => ?_) ?_
            · refine step_row rfl 45 (.tmp 7) (.tmp 12) rfl g11 (rowC F 128) rfl rfl 45 zc H13.b1 (by rw [rowC_size]; exact info59) (by rw [rowC_size, zsize]) (rowC_all _ _) ?_
              have H14 := H13.set1 (rowC F 128)
              obtain ⟨W14, hV⟩ : ∃ V, World.setRow W13 g11 (rowC F 128) = V := ⟨_, rfl⟩
              rw [hV] at H14
              rw [hV]
              clear hV
              refine hK.out _ _ (sK _ H14.e) (fun hHeld => ?_)
              clear hK K hHeld
              try simp only [Act.put, List.setIfInBounds_toArray, List.set_cons_zero, List.set_cons_succ]
              refine wpAnyH_ready (rs := [7]) (by kernel_rfl) (by simp) ?_
              refine AllReadyH.cons rfl (fun K hK => ?_) ?_
              · refine step_row rfl 45 (.tmp 8) (.tmp 14) rfl g13 (rowC G 128) rfl rfl 45 zc H14.b2 (by rw [rowC_size]; exact info59) (by rw [rowC_size, zsize]) (rowC_all _ _) ?_
                have H15 := H14.set2 (rowC G 128)
                obtain ⟨W15, hV⟩ : ∃ V, World.setRow W14 g13 (rowC G 128) = V := ⟨_, rfl⟩
                rw [hV] at H15
                rw [hV]
                clear hV
                refine hK.out _ _ (sK _ H15.e) (fun hHeld => ?_)
                clear hK K hHeld
                try simp only [Act.put, List.setIfInBounds_toArray, List.set_cons_zero, List.set_cons_succ]
                refine wpAnyH_done (by kernel_rfl) ?_ _
                exact ⟨rfl, g11, g13, rfl, H15⟩
              exact AllReadyH.nil
            exact AllReadyH.nil
          exact AllReadyH.nil
        refine AllReadyH.cons rfl (fun K hK => ?_) ?_
        · go_simp
          have H16 := H11.alloc zc
          obtain ⟨W16, hV⟩ : ∃ V, World.alloc W11 (.cells zc 45) = V := ⟨_, rfl⟩
          obtain ⟨g16, hg⟩ : ∃ g, W11.heap.size = g := ⟨_, rfl⟩
          rw [hV, hg] at H16
          rw [hV, hg]
          clear hV hg
          refine hK.out _ _ (sK _ H16.e) (fun hHeld => ?_)
          clear hK K hHeld
          try simp only [Act.put, List.setIfInBounds_toArray, List.set_cons_zero, List.set_cons_succ]
          refine wpAnyH_ready (rs := [3]) (by kernel_rfl) (by simp) ?_
          refine AllReadyH.cons rfl (fun K hK => ?_) ?_
          · go_simp
            refine (RGh.out _).mono ?_
            rintro e W17 ⟨rfl, hb⟩
            have H17 := H16.call hb
            clear hb
            go_wp2_with fail
            refine hK.out _ _ (sK _ H17.e) (fun hHeld => ?_)
            clear hK K hHeld
            try simp only [Act.put, List.setIfInBounds_toArray, List.set_cons_zero, List.set_cons_succ]
            refine wpAnyH_ready (rs := [6]) (by kernel_rfl) (by simp) ?_
            refine AllReadyH.cons rfl (fun K hK => ?_) ?_
            · refine step_row rfl 45 (.tmp 7) (.tmp 12) rfl g11 (rowC F 128) rfl rfl 45 zc H17.b1 (by rw [rowC_size]; exact info59) (by rw [rowC_size, zsize]) (rowC_all _ _) ?_
              have H18 := H17.set1 (rowC F 128)
              obtain ⟨W18, hV⟩ : ∃ V, World.setRow W17 g11 (rowC F 128) = V := ⟨_, rfl⟩
              rw [hV] at H18
              rw [hV]
              clear hV
              refine hK.out _ _ (sK _ H18.e) (fun hHeld => ?_)
              clear hK K hHeld
              try simp only [Act.put, List.setIfInBounds_toArray, List.set_cons_zero, List.set_cons_succ]
              refine wpAnyH_ready (rs := [7]) (by kernel_rfl) (by simp) ?_
              refine AllReadyH.cons rfl (fun K hK => ?_) ?_
              · refine step_row rfl 45 (.tmp 8) (.tmp 14) rfl g16 (rowC G 128) rfl rfl 45 zc H18.b2 (by rw [rowC_size]; exact info59) (by rw [rowC_size, zsize]) (rowC_all _ _) ?_
                have H19 := H18.set2 (rowC G 128)
                obtain ⟨W19, hV⟩ : ∃ V, World.setRow W18 g16 (rowC G 128) = V := ⟨_, rfl⟩
                rw [hV] at H19
                rw [hV]
                clear hV
                refine hK.out _ _ (sK _ H19.e) (fun hHeld => ?_)
                clear hK K hHeld
                try simp only [Act.put, List.setIfInBounds_toArray, List.set_cons_zero, List.set_cons_succ]
                refine wpAnyH_done (by kernel_rfl) ?_ _
                exact ⟨rfl, g11, g16, rfl, H19⟩
              exact AllReadyH.nil
            exact AllReadyH.nil
          exact AllReadyH.nil
        exact AllReadyH.nil
      refine AllReadyH.cons rfl (fun K hK => ?_) ?_
      · go_simp
        have H20 := H1.alloc zc
        obtain ⟨W20, hV⟩ : ∃ V, World.alloc W1 (.cells zc 45) = V := ⟨_, rfl⟩
        obtain ⟨g20, hg⟩ : ∃ g, W1.heap.size = g := ⟨_, rfl⟩
        rw [hV, hg] at H20
        rw [hV, hg]
        clear hV hg
        refine hK.out _ _ (sK _ H20.e) (fun hHeld => ?_)
        clear hK K hHeld
        try simp only [Act.put, List.setIfInBounds_toArray, List.set_cons_zero, List.set_cons_succ]
        refine wpAnyH_ready (rs := [3, 4]) (by kernel_rfl) (by simp) ?_
        refine AllReadyH.cons rfl (fun K hK => ?_) ?_
        · go_simp
          refine (RGh.out _).mono ?_
          rintro e W21 ⟨rfl, hb⟩
          have H21 := H20.call hb
          clear hb
          go_wp2_with fail
          refine hK.out _ _ (sK _ H21.e) (fun hHeld => ?_)
          clear hK K hHeld
          try simp only [Act.put, List.setIfInBounds_toArray, List.set_cons_zero, List.set_cons_succ]
          refine wpAnyH_ready (rs := [4]) (by kernel_rfl) (by simp) ?_
          refine AllReadyH.cons rfl (fun K hK => ?_) ?_
          · go_simp
            have H22 := (H21.alloc zc).swap
            obtain ⟨W22, hV⟩ : ∃ V, World.alloc W21 (.cells zc 45) = V := ⟨_, rfl⟩
            obtain ⟨g22, hg⟩ : ∃ g, W21.heap.size = g := ⟨_, rfl⟩
            rw [hV, hg] at H22
            rw [hV, hg]
            clear hV hg
            refine hK.out _ _ (sK _ H22.e) (fun hHeld => ?_)
            clear hK K hHeld
            try simp only [Act.put, List.setIfInBounds_toArray, List.set_cons_zero, List.set_cons_succ]
            refine wpAnyH_ready (rs := [6]) (by kernel_rfl) (by simp) ?_
            refine AllReadyH.cons rfl (fun K hK => ?_) ?_
            · refine step_row rfl 45 (.tmp 7) (.tmp 12) rfl g22 (rowC F 128) rfl rfl 45 zc H22.b1 (by rw [rowC_size]; exact info59) (by rw [rowC_size, zsize]) (rowC_all _ _) ?_
              have H23 := H22.set1 (rowC F 128)
              obtain ⟨W23, hV⟩ : ∃ V, World.setRow W22 g22 (rowC F 128) = V := ⟨_, rfl⟩
              rw [hV] at H23
              rw [hV]
              clear hV
              refine hK.out _ _ (sK _ H23.e) (fun hHeld => ?_)
              clear hK K hHeld
              try simp only [Act.put, List.setIfInBounds_toArray, List.set_cons_zero, List.set_cons_succ]
              refine wpAnyH_ready (rs := [7]) (by kernel_rfl) (by simp) ?_
              refine AllReadyH.cons rfl (fun K hK => ?_) ?_
              · refine step_row rfl 45 (.tmp 8) (.tmp 14) rfl g20 (rowC G 128) rfl rfl 45 zc H23.b2 (by rw [rowC_size]; exact info59) (by rw [rowC_size, zsize]) (rowC_all _ _) ?_
                have H24 := H23.set2 (rowC G 128)
                obtain ⟨W24, hV⟩ : ∃ V, World.setRow W23 g20 (rowC G 128) = V := ⟨_, rfl⟩
                rw [hV] at H24
                rw [hV]
                clear hV
                refine hK.out _ _ (sK _ H24.e) (fun hHeld => ?_)
                clear hK K hHeld
                try simp only [Act.put, List.setIfInBounds_toArray, List.set_cons_zero, List.set_cons_succ]
                refine wpAnyH_done (by kernel_rfl) ?_ _
                exact ⟨rfl, g22, g20, rfl, H24⟩
              exact AllReadyH.nil
            exact AllReadyH.nil
          exact AllReadyH.nil
        refine AllReadyH.cons rfl (fun K hK => ?_) ?_
        · go_simp
          have H25 := (H20.alloc zc).swap
          obtain ⟨W25, hV⟩ : ∃ V, World.alloc W20 (.cells zc 45) = V := ⟨_, rfl⟩
          obtain ⟨g25, hg⟩ : ∃ g, W20.heap.size = g := ⟨_, rfl⟩
          rw [hV, hg] at H25
          rw [hV, hg]
          clear hV hg
          refine hK.out _ _ (sK _ H25.e) (fun hHeld => ?_)
          clear hK K hHeld
          try simp only [Act.put, List.setIfInBounds_toArray, List.set_cons_zero, List.set_cons_succ]
          refine wpAnyH_ready (rs := [3]) (by kernel_rfl) (by simp) ?_
          refine AllReadyH.cons rfl (fun K hK => ?_) ?_
          · go_simp
            refine (RGh.out _).mono ?_
            rintro e W26 ⟨rfl, hb⟩
            have H26 := H25.call hb
            clear hb
            go_wp2_with fail
            refine hK.out _ _ (sK _ H26.e) (fun hHeld => ?_)
            clear hK K hHeld
            try simp only [Act.put, List.setIfInBounds_toArray, List.set_cons_zero, List.set_cons_succ]
            refine wpAnyH_ready (rs := [6]) (by kernel_rfl) (by simp) ?_
            refine AllReadyH.cons rfl (fun K hK => ?_) ?_
            · refine step_row rfl 45 (.tmp 7) (.tmp 12) rfl g25 (rowC F 128) rfl rfl 45 zc H26.b1 (by rw [rowC_size]; exact info59) (by rw [rowC_size, zsize]) (rowC_all _ _) ?_
              have H27 := H26.set1 (rowC F 128)
              obtain ⟨W27, hV⟩ : ∃ V, World.setRow W26 g25 (rowC F 128) = V := ⟨_, rfl⟩
              rw [hV] at H27
              rw [hV]
              clear hV
              refine hK.out _ _ (sK _ H27.e) (fun hHeld => ?_)
              clear hK K hHeld
              try simp only [Act.put, List.setIfInBounds_toArray, List.set_cons_zero, List.set_cons_succ]
              refine wpAnyH_ready (rs := [7]) (by kernel_rfl) (by simp) ?_
              refine AllReadyH.cons rfl (fun K hK => ?_) ?_
              · refine step_row rfl 45 (.tmp 8) (.tmp 14) rfl g20 (rowC G 128) rfl rfl 45 zc H27.b2 (by rw [rowC_size]; exact info59) (by rw [rowC_size, zsize]) (rowC_all _ _) ?_
                have H28 := H27.set2 (rowC G 128)
                obtain ⟨W28, hV⟩ : ∃ V, World.setRow W27 g20 (rowC G 128) = V := ⟨_, rfl⟩
                rw [hV] at H28
                rw [hV]
                clear hV
                refine hK.out _ _ (sK _ H28.e) (fun hHeld => ?_)
                clear hK K hHeld
                try simp only [Act.put, List.setIfInBounds_toArray, List.set_cons_zero, List.set_cons_succ]
                refine wpAnyH_done (by kernel_rfl) ?_ _
                exact ⟨rfl, g25, g20, rfl, H28⟩
              exact AllReadyH.nil
            exact AllReadyH.nil
          exact AllReadyH.nil
        exact AllReadyH.nil
      exact AllReadyH.nil
    refine AllReadyH.cons rfl (fun K hK => ?_) ?_
    · go_simp
      have H29 := H9.alloc zc
      obtain ⟨W29, hV⟩ : ∃ V, World.alloc W0 (.cells zc 45) = V := ⟨_, rfl⟩
      obtain ⟨g29, hg⟩ : ∃ g, W0.heap.size = g := ⟨_, rfl⟩
      rw [hV, hg] at H29
      rw [hV, hg]
      clear hV hg
      refine hK.out _ _ (sK _ H29.e) (fun hHeld => ?_)
      clear hK K hHeld
      try simp only [Act.put, List.setIfInBounds_toArray, List.set_cons_zero, List.set_cons_succ]
      refine wpAnyH_ready (rs := [1, 5]) (by kernel_rfl) (by simp) ?_
      refine AllReadyH.cons rfl (fun K hK => ?_) ?_
      · go_simp
        refine (RFh.out _).mono ?_
        rintro e W30 ⟨rfl, hb⟩
        have H30 := H29.call hb
        clear hb
        go_wp2_with fail
        refine hK.out _ _ (sK _ H30.e) (fun hHeld => ?_)
        clear hK K hHeld
        try simp only [Act.put, List.setIfInBounds_toArray, List.set_cons_zero, List.set_cons_succ]
        refine wpAnyH_ready (rs := [3, 5]) (by kernel_rfl) (by simp) ?_
        refine AllReadyH.cons rfl (fun K hK => ?_) ?_
        · go_simp
          refine (RGh.out _).mono ?_
          rintro e W31 ⟨rfl, hb⟩
          have H31 := H30.call hb
          clear hb
          go_wp2_with fail
          refine hK.out _ _ (sK _ H31.e) (fun hHeld => ?_)
          clear hK K hHeld
          try simp only [Act.put, List.setIfInBounds_toArray, List.set_cons_zero, List.set_cons_succ]
          refine wpAnyH_ready (rs := [5]) (by kernel_rfl) (by simp) ?_
          refine AllReadyH.cons rfl (fun K hK => ?_) ?_
          · go_simp
            have H32 := H31.alloc zc
            obtain ⟨W32, hV⟩ : ∃ V, World.alloc W31 (.cells zc 45) = V := ⟨_, rfl⟩
            obtain ⟨g32, hg⟩ : ∃ g, W31.heap.size = g := ⟨_, rfl⟩
            rw [hV, hg] at H32
            rw [hV, hg]
            clear hV hg
            refine hK.out _ _ (sK _ H32.e) (fun hHeld => ?_)
            clear hK K hHeld
            try simp only [Act.put, List.setIfInBounds_toArray, List.set_cons_zero, List.set_cons_succ]
            refine wpAnyH_ready (rs := [6]) (by kernel_rfl) (by simp) ?_
            refine AllReadyH.cons rfl (fun K hK => ?_) ?_
            · refine step_row rfl 45 (.tmp 7) (.tmp 12) rfl g29 (rowC F 128) rfl rfl 45 zc H32.b1 (by rw [rowC_size]; exact info59) (by rw [rowC_size, zsize]) (rowC_all _ _) ?_
              have H33 := H32.set1 (rowC F 128)
              obtain ⟨W33, hV⟩ : ∃ V, World.setRow W32 g29 (rowC F 128) = V := ⟨_, rfl⟩
              rw [hV] at H33
              rw [hV]
              clear hV
              refine hK.out _ _ (sK _ H33.e) (fun hHeld => ?_)
              clear hK K hHeld
              try simp only [Act.put, List.setIfInBounds_toArray, List.set_cons_zero, List.set_cons_succ]
              refine wpAnyH_ready (rs := [7]) (by kernel_rfl) (by simp) ?_
              refine AllReadyH.cons rfl (fun K hK => ?_) ?_
              · refine step_row rfl 45 (.tmp 8) (.tmp 14) rfl g32 (rowC G 128) rfl rfl 45 zc H33.b2 (by rw [rowC_size]; exact info59) (by rw [rowC_size, zsize]) (rowC_all _ _) ?_
                have H34 := H33.set2 (rowC G 128)
                obtain ⟨W34, hV⟩ : ∃ V, World.setRow W33 g32 (rowC G 128) = V := ⟨_, rfl⟩
                rw [hV] at H34
                rw [hV]
                clear hV
                refine hK.out _ _ (sK _ H34.e) (fun hHeld => ?_)
                clear hK K hHeld
                try simp only [Act.put, List.setIfInBounds_toArray, List.set_cons_zero, List.set_cons_succ]
                refine wpAnyH_done (by kernel_rfl) ?_ _
                exact ⟨rfl, g29, g32, rfl, H34⟩
              exact AllReadyH.nil
            exact AllReadyH.nil
          exact AllReadyH.nil
        refine AllReadyH.cons rfl (fun K hK => ?_) ?_
        · go_simp
          have H35 := H30.alloc zc
          obtain ⟨W35, hV⟩ : ∃ V, World.alloc W30 (.cells zc 45) = V := ⟨_, rfl⟩
          obtain ⟨g35, hg⟩ : ∃ g, W30.heap.size = g := ⟨_, rfl⟩
          rw [hV, hg] at H35
          rw [hV, hg]
          clear hV hg
          refine hK.out _ _ (sK _ H35.e) (fun hHeld => ?_)
          clear hK K hHeld
          try simp only [Act.put, List.setIfInBounds_toArray, List.set_cons_zero, List.set_cons_succ]
          refine wpAnyH_ready (rs := [3]) (by kernel_rfl) (by simp) ?_
          refine AllReadyH.cons rfl (fun K hK => ?_) ?_
          · go_simp
            refine (RGh.out _).mono ?_
            rintro e W36 ⟨rfl, hb⟩
            have H36 := H35.call hb
            clear hb
            go_wp2_with fail
            refine hK.out _ _ (sK _ H36.e) (fun hHeld => ?_)
            clear hK K hHeld
            try simp only [Act.put, List.setIfInBounds_toArray, List.set_cons_zero, List.set_cons_succ]
            refine wpAnyH_ready (rs := [6]) (by kernel_rfl) (by simp) ?_
            refine AllReadyH.cons rfl (fun K hK => ?_) ?_
            · refine step_row rfl 45 (.tmp 7) (.tmp 12) rfl g29 (rowC F 128) rfl rfl 45 zc H36.b1 (by rw [rowC_size]; exact info59) (by rw [rowC_size, zsize]) (rowC_all _ _) ?_
              have H37 := H36.set1 (rowC F 128)
              obtain ⟨W37, hV⟩ : ∃ V, World.setRow W36 g29 (rowC F 128) = V := ⟨_, rfl⟩
              rw [hV] at H37
              rw [hV]
              clear hV
              refine hK.out _ _ (sK _ H37.e) (fun hHeld => ?_)
              clear hK K hHeld
              try simp only [Act.put, List.setIfInBounds_toArray, List.set_cons_zero, List.set_cons_succ]
              refine wpAnyH_ready (rs := [7]) (by kernel_rfl) (by simp) ?_
              refine AllReadyH.cons rfl (fun K hK => ?_) ?_
              · refine step_row rfl 45 (.tmp 8) (.tmp 14) rfl g35 (rowC G 128) rfl rfl 45 zc H37.b2 (by rw [rowC_size]; exact info59) (by rw [rowC_size, zsize]) (rowC_all _ _) ?_
                have H38 := H37.set2 (rowC G 128)
                obtain ⟨W38, hV⟩ : ∃ V, World.setRow W37 g35 (rowC G 128) = V := ⟨_, rfl⟩
                rw [hV] at H38
                rw [hV]
                clear hV
                refine hK.out _ _ (sK _ H38.e) (fun hHeld => ?_)
                clear hK K hHeld
                try simp only [Act.put, List.setIfInBounds_toArray, List.set_cons_zero, List.set_cons_succ]
                refine wpAnyH_done (by kernel_rfl) ?_ _
                exact ⟨rfl, g29, g35, rfl, H38⟩
              exact AllReadyH.nil
            exact AllReadyH.nil
          exact AllReadyH.nil
        exact AllReadyH.nil
      refine AllReadyH.cons rfl (fun K hK => ?_) ?_
      · go_simp
        have H39 := H29.alloc zc
        obtain ⟨W39, hV⟩ : ∃ V, World.alloc W29 (.cells zc 45) = V := ⟨_, rfl⟩
        obtain ⟨g39, hg⟩ : ∃ g, W29.heap.size = g := ⟨_, rfl⟩
        rw [hV, hg] at H39
        rw [hV, hg]
        clear hV hg
        refine hK.out _ _ (sK _ H39.e) (fun hHeld => ?_)
        clear hK K hHeld
        try simp only [Act.put, List.setIfInBounds_toArray, List.set_cons_zero, List.set_cons_succ]
        refine wpAnyH_ready (rs := [1]) (by kernel_rfl) (by simp) ?_
        refine AllReadyH.cons rfl (fun K hK => ?_) ?_
        · go_simp
          refine (RFh.out _).mono ?_
          rintro e W40 ⟨rfl, hb⟩
          have H40 := H39.call hb
          clear hb
          go_wp2_with fail
          refine hK.out _ _ (sK _ H40.e) (fun hHeld => ?_)
          clear hK K hHeld
          try simp only [Act.put, List.setIfInBounds_toArray, List.set_cons_zero, List.set_cons_succ]
          refine wpAnyH_ready (rs := [3]) (by kernel_rfl) (by simp) ?_
          refine AllReadyH.cons rfl (fun K hK => ?_) ?_
          · go_simp
            refine (RGh.out _).mono ?_
            rintro e W41 ⟨rfl, hb⟩
            have H41 := H40.call hb
            clear hb
            go_wp2_with fail
            refine hK.out _ _ (sK _ H41.e) (fun hHeld => ?_)
            clear hK K hHeld
            try simp only [Act.put, List.setIfInBounds_toArray, List.set_cons_zero, List.set_cons_succ]
            refine wpAnyH_ready (rs := [6]) (by kernel_rfl) (by simp) ?_
            refine AllReadyH.cons rfl (fun K hK => ?_) ?_
            · refine step_row rfl 45 (.tmp 7) (.tmp 12) rfl g29 (rowC F 128) rfl rfl 45 zc H41.b1 (by rw [rowC_size]; exact info59) (by rw [rowC_size, zsize]) (rowC_all _ _) ?_
              have H42 := H41.set1 (rowC F 128)
              obtain ⟨W42, hV⟩ : ∃ V, World.setRow W41 g29 (rowC F 128) = V := ⟨_, rfl⟩
              rw [hV] at H42
              rw [hV]
              clear hV
              refine hK.out _ _ (sK _ H42.e) (fun hHeld => ?_)
              clear hK K hHeld
              try simp only [Act.put, List.setIfInBounds_toArray, List.set_cons_zero, List.set_cons_succ]
              refine wpAnyH_ready (rs := [7]) (by kernel_rfl) (by simp) ?_
              refine AllReadyH.cons rfl (fun K hK => ?_) ?_
              · refine step_row rfl 45 (.tmp 8) (.tmp 14) rfl g39 (rowC G 128) rfl rfl 45 zc H42.b2 (by rw [rowC_size]; exact info59) (by rw [rowC_size, zsize]) (rowC_all _ _) ?_
                have H43 := H42.set2 (rowC G 128)
                obtain ⟨W43, hV⟩ : ∃ V, World.setRow W42 g39 (rowC G 128) = V := ⟨_, rfl⟩
                rw [hV] at H43
                rw [hV]
                clear hV
                refine hK.out _ _ (sK _ H43.e) (fun hHeld => ?_)
                clear hK K hHeld
                try simp only [Act.put, List.setIfInBounds_toArray, List.set_cons_zero, List.set_cons_succ]
                refine wpAnyH_done (by kernel_rfl) ?_ _
                exact ⟨rfl, g29, g39, rfl, H43⟩
              exact AllReadyH.nil
            exact AllReadyH.nil
          exact AllReadyH.nil
        exact AllReadyH.nil
      exact AllReadyH.nil
    refine AllReadyH.cons rfl (fun K hK => ?_) ?_
    · go_simp
      have H44 := H9.alloc zc
      obtain ⟨W44, hV⟩ : ∃ V, World.alloc W0 (.cells zc 45) = V := ⟨_, rfl⟩
      obtain ⟨g44, hg⟩ : ∃ g, W0.heap.size = g := ⟨_, rfl⟩
      rw [hV, hg] at H44
      rw [hV, hg]
      clear hV hg
      refine hK.out _ _ (sK _ H44.e) (fun hHeld => ?_)
      clear hK K hHeld
      try simp only [Act.put, List.setIfInBounds_toArray, List.set_cons_zero, List.set_cons_succ]
      refine wpAnyH_ready (rs := [1, 4]) (by kernel_rfl) (by simp) ?_
      refine AllReadyH.cons rfl (fun K hK => ?_) ?_
      · go_simp
        refine (RFh.out _).mono ?_
        rintro e W45 ⟨rfl, hb⟩
        have H45 := H44.call hb
        clear hb
        go_wp2_with fail
        refine hK.out _ _ (sK _ H45.e) (fun hHeld => ?_)
        clear hK K hHeld
        try simp only [Act.put, List.setIfInBounds_toArray, List.set_cons_zero, List.set_cons_succ]
        refine wpAnyH_ready (rs := [3, 4]) (by kernel_rfl) (by simp) ?_
        refine AllReadyH.cons rfl (fun K hK => ?_) ?_
        · go_simp
          refine (RGh.out _).mono ?_
          rintro e W46 ⟨rfl, hb⟩
          have H46 := H45.call hb
          clear hb
          go_wp2_with fail
          refine hK.out _ _ (sK _ H46.e) (fun hHeld => ?_)
          clear hK K hHeld
          try simp only [Act.put, List.setIfInBounds_toArray, List.set_cons_zero, List.set_cons_succ]
          refine wpAnyH_ready (rs := [4]) (by kernel_rfl) (by simp) ?_
          refine AllReadyH.cons rfl (fun K hK => ?_) ?_
          · go_simp
            have H47 := (H46.alloc zc).swap
            obtain ⟨W47, hV⟩ : ∃ V, World.alloc W46 (.cells zc 45) = V := ⟨_, rfl⟩
            obtain ⟨g47, hg⟩ : ∃ g, W46.heap.size = g := ⟨_, rfl⟩
            rw [hV, hg] at H47
            rw [hV, hg]
            clear hV hg
            refine hK.out _ _ (sK _ H47.e) (fun hHeld => ?_)
            clear hK K hHeld
            try simp only [Act.put, List.setIfInBounds_toArray, List.set_cons_zero, List.set_cons_succ]
            refine wpAnyH_ready (rs := [6]) (by kernel_rfl) (by simp) ?_
            refine AllReadyH.cons rfl (fun K hK => ?_) ?_
            · refine step_row rfl 45 (.tmp 7) (.tmp 12) rfl g47 (rowC F 128) rfl rfl 45 zc H47.b1 (by rw [rowC_size]; exact info59) (by rw [rowC_size, zsize]) (rowC_all _ _) ?_
              have H48 := H47.set1 (rowC F 128)
              obtain ⟨W48, hV⟩ : ∃ V, World.setRow W47 g47 (rowC F 128) = V := ⟨_, rfl⟩
              rw [hV] at H48
              rw [hV]
              clear hV
              refine hK.out _ _ (sK _ H48.e) (fun hHeld => ?_)
              clear hK K hHeld
              try simp only [Act.put, List.setIfInBounds_toArray, List.set_cons_zero, List.set_cons_succ]
              refine wpAnyH_ready (rs := [7]) (by kernel_rfl) (by simp) ?_
              refine AllReadyH.cons rfl (fun K hK => ?_) ?_
              · refine step_row rfl 45 (.tmp 8) (.tmp 14) rfl g44 (rowC G 128) rfl rfl 45 zc H48.b2 (by rw [rowC_size]; exact info59) (by rw [rowC_size, zsize]) (rowC_all _ _) ?_
                have H49 := H48.set2 (rowC G 128)
                obtain ⟨W49, hV⟩ : ∃ V, World.setRow W48 g44 (rowC G 128) = V := ⟨_, rfl⟩
                rw [hV] at H49
                rw [hV]
                clear hV
                refine hK.out _ _ (sK _ H49.e) (fun hHeld => ?_)
                clear hK K hHeld
                try simp only [Act.put, List.setIfInBounds_toArray, List.set_cons_zero, List.set_cons_succ]
                refine wpAnyH_done (by kernel_rfl) ?_ _
                exact ⟨rfl, g47, g44, rfl, H49⟩
              exact AllReadyH.nil
            exact AllReadyH.nil
          exact AllReadyH.nil
        refine AllReadyH.cons rfl (fun K hK => ?_) ?_
        · go_simp
          have H50 := (H45.alloc zc).swap
          obtain ⟨W50, hV⟩ : ∃ V, World.alloc W45 (.cells zc 45) = V := ⟨_, rfl⟩
          obtain ⟨g50, hg⟩ : ∃ g, W45.heap.size = g := ⟨_, rfl⟩
          rw [hV, hg] at H50
          rw [hV, hg]
          clear hV hg
          refine hK.out _ _ (sK _ H50.e) (fun hHeld => ?_)
          clear hK K hHeld
          try simp only [Act.put, List.setIfInBounds_toArray, List.set_cons_zero, List.set_cons_succ]
          refine wpAnyH_ready (rs := [3]) (by kernel_rfl) (by simp) ?_
          refine AllReadyH.cons rfl (fun K hK => ?_) ?_
          · go_simp
            refine (RGh.out _).mono ?_
            rintro e W51 ⟨rfl, hb⟩
            have H51 := H50.call hb
            clear hb
            go_wp2_with fail
            refine hK.out _ _ (sK _ H51.e) (fun hHeld => ?_)
            clear hK K hHeld
            try simp only [Act.put, List.setIfInBounds_toArray, List.set_cons_zero, List.set_cons_succ]
            refine wpAnyH_ready (rs := [6]) (by kernel_rfl) (by simp) ?_
            refine AllReadyH.cons rfl (fun K hK => ?_) ?_
            · refine step_row rfl 45 (.tmp 7) (.tmp 12) rfl g50 (rowC F 128) rfl rfl 45 zc H51.b1 (by rw [rowC_size]; exact info59) (by rw [rowC_size, zsize]) (rowC_all _ _) ?_
              have H52 := H51.set1 (rowC F 128)
              obtain ⟨W52, hV⟩ : ∃ V, World.setRow W51 g50 (rowC F 128) = V := ⟨_, rfl⟩
              rw [hV] at H52
              rw [hV]
              clear hV
              refine hK.out _ _ (sK _ H52.e) (fun hHeld => ?_)
              clear hK K hHeld
              try simp only [Act.put, List.setIfInBounds_toArray, List.set_cons_zero, List.set_cons_succ]
              refine wpAnyH_ready (rs := [7]) (by kernel_rfl) (by simp) ?_
              refine AllReadyH.cons rfl (fun K hK => ?_) ?_
              · refine step_row rfl 45 (.tmp 8) (.tmp 14) rfl g44 (rowC G 128) rfl rfl 45 zc H52.b2 (by rw [rowC_size]; exact info59) (by rw [rowC_size, zsize]) (rowC_all _ _) ?_
                have H53 := H52.set2 (rowC G 128)
                obtain ⟨W53, hV⟩ : ∃ V, World.setRow W52 g44 (rowC G 128) = V := ⟨_, rfl⟩
                rw [hV] at H53
                rw [hV]
                clear hV
                refine hK.out _ _ (sK _ H53.e) (fun hHeld => ?_)
                clear hK K hHeld
                try simp only [Act.put, List.setIfInBounds_toArray, List.set_cons_zero, List.set_cons_succ]
                refine wpAnyH_done (by kernel_rfl) ?_ _
                exact ⟨rfl, g50, g44, rfl, H53⟩
              exact AllReadyH.nil
            exact AllReadyH.nil
          exact AllReadyH.nil
        exact AllReadyH.nil
      refine AllReadyH.cons rfl (fun K hK => ?_) ?_
      · go_simp
        have H54 := (H44.alloc zc).swap
        obtain ⟨W54, hV⟩ : ∃ V, World.alloc W44 (.cells zc 45) = V := ⟨_, rfl⟩
        obtain ⟨g54, hg⟩ : ∃ g, W44.heap.size = g := ⟨_, rfl⟩
        rw [hV, hg] at H54
        rw [hV, hg]
        clear hV hg
        refine hK.out _ _ (sK _ H54.e) (fun hHeld => ?_)
        clear hK K hHeld
        try simp only [Act.put, List.setIfInBounds_toArray, List.set_cons_zero, List.set_cons_succ]
        refine wpAnyH_ready (rs := [1]) (by kernel_rfl) (by simp) ?_
        refine AllReadyH.cons rfl (fun K hK => ?_) ?_
        · go_simp
          refine (RFh.out _).mono ?_
          rintro e W55 ⟨rfl, hb⟩
          have H55 := H54.call hb
          clear hb
          go_wp2_with fail
          refine hK.out _ _ (sK _ H55.e) (fun hHeld => ?_)
          clear hK K hHeld
          try simp only [Act.put, List.setIfInBounds_toArray, List.set_cons_zero, List.set_cons_succ]
          refine wpAnyH_ready (rs := [3]) (by kernel_rfl) (by simp) ?_
          refine AllReadyH.cons rfl (fun K hK => ?_) ?_
          · go_simp
            refine (RGh.out _).mono ?_
            rintro e W56 ⟨rfl, hb⟩
            have H56 := H55.call hb
            clear hb
            go_wp2_with fail
            refine hK.out _ _ (sK _ H56.e) (fun hHeld => ?_)
            clear hK K hHeld
            try simp only [Act.put, List.setIfInBounds_toArray, List.set_cons_zero, List.set_cons_succ]
            refine wpAnyH_ready (rs := [6]) (by kernel_rfl) (by simp) ?_
            refine AllReadyH.cons rfl (fun K hK => ?_) ?_
            · refine step_row rfl 45 (.tmp 7) (.tmp 12) rfl g54 (rowC F 128) rfl rfl 45 zc H56.b1 (by rw [rowC_size]; exact info59) (by rw [rowC_size, zsize]) (rowC_all _ _) ?_
              have H57 := H56.set1 (rowC F 128)
              obtain ⟨W57, hV⟩ : ∃ V, World.setRow W56 g54 (rowC F 128) = V := ⟨_, rfl⟩
              rw [hV] at H57
              rw [hV]
              clear hV
              refine hK.out _ _ (sK _ H57.e) (fun hHeld => ?_)
              clear hK K hHeld
              try simp only [Act.put, List.setIfInBounds_toArray, List.set_cons_zero, List.set_cons_succ]
              refine wpAnyH_ready (rs := [7]) (by kernel_rfl) (by simp) ?_
              refine AllReadyH.cons rfl (fun K hK => ?_) ?_
              · refine step_row rfl 45 (.tmp 8) (.tmp 14) rfl g44 (rowC G 128) rfl rfl 45 zc H57.b2 (by rw [rowC_size]; exact info59) (by rw [rowC_size, zsize]) (rowC_all _ _) ?_
                have H58 := H57.set2 (rowC G 128)
                obtain ⟨W58, hV⟩ : ∃ V, World.setRow W57 g44 (rowC G 128) = V := ⟨_, rfl⟩
                rw [hV] at H58
                rw [hV]
                clear hV
                refine hK.out _ _ (sK _ H58.e) (fun hHeld => ?_)
                clear hK K hHeld
                try simp only [Act.put, List.setIfInBounds_toArray, List.set_cons_zero, List.set_cons_succ]
                refine wpAnyH_done (by kernel_rfl) ?_ _
                exact ⟨rfl, g54, g44, rfl, H58⟩
              exact AllReadyH.nil
            exact AllReadyH.nil
          exact AllReadyH.nil
        exact AllReadyH.nil
      exact AllReadyH.nil
    exact AllReadyH.nil
  obtain ⟨rfl, g, h, rfl, H⟩ := hq
  have H1 : B3 w X0 (W.alloc (.cells zc 45)) g h W.heap.size F G (bothF F G k) 0 :=
    ⟨⟨H.e.alloc H.e.size _, H.b1.alloc _, H.b2.alloc _, H.n1, H.n2, H.ne⟩, (A2.next H.e).alloc _, by rw [← zero128]; exact Blk.new _ _ _, by have := H.e.size; omega, H.e.size, by have := H.b1.lt; omega, by have := H.b2.lt; omega⟩
  obtain ⟨Y, hY⟩ : ∃ Y, W.alloc (.cells zc 45) = Y := ⟨_, rfl⟩
  obtain ⟨z, hz⟩ : ∃ z, W.heap.size = z := ⟨_, rfl⟩
  rw [hY, hz] at H1
  have H2 := Lib.hid H1
  have AEh := Lib.hid (And.intro AE AS)
  clear H H0 A0 A1 A2 AE AS sK H1
  refine hK0 _ _ ?_
  go_wp2_with fail
  clear hY hz HZ HC
  rcases (show k = 0 ∨ k = 1 ∨ (¬ k = 0 ∧ ¬ k = 1) by omega) with hk | hk | ⟨hk, hk1⟩
  · have T := Lib.hid (show True from trivial)
    subst hk
    go_loopg [10] 128 (fun gh i wr => ∃ m : Nat, m ≤ 128 ∧ gh = 128 - m ∧ i = .int .i64 m ∧ Hid (B3 w X0 wr g h z F G (bothF F G 0) m))
    case atStart => exact ⟨0, by omega, rfl, rfl, H2⟩
    case round =>
      obtain ⟨m, hm, rfl, rfl, HO⟩ := hrel
      clear H2
      by_cases hlt : m < 128
      · have hmI : (m : Int) < 128 := by omega
        have SF := HO.out.b.b1.cell m
        rw [rowC_get _ _ _ hlt] at SF
        have SG := HO.out.b.b2.cell m
        rw [rowC_get _ _ _ hlt] at SG
        have SC := HO.out.c.cell m
        rw [rowC_get _ _ _ hlt] at SC
        have SZ := HO.out.c.frozen m
        obtain ⟨bb, hbb⟩ : ∃ bb, (decide (m < m) && bothF F G 0 m) = bb := ⟨_, rfl⟩
        rw [hbb] at SC
        clear hbb
        have E : Hid (∀ b, b = bothF F G 0 m → B3 w X0 (wr.setCell ⟨z, m, none⟩ (.bool b)) g h z F G (bothF F G 0) (m + 1)) := Lib.hid fun b hb => HO.out.step hlt hb
        have C : Hid (bothF F G 0 m = (F m && G m)) := Lib.hid (by simp [bothF])
        simp only [hlt, decide_true, Bool.true_and] at SF SG
        clear HO
        cases hF : F m <;> cases hG : G m
        all_goals (
          have D := C.out
          rw [hF, hG] at D
          rw [hF] at SF
          rw [hG] at SG
          have Dh := Lib.hid D
          clear C hF hG D
          go_wp2_with fail
          go_roundg (128 - (m + 1))
          case measure => omega
          case rel => exact ⟨m + 1, by omega, rfl, by go_num, Lib.hid (E.out _ (by rw [Dh.out]; rfl))⟩)
      · obtain rfl : m = 128 := by omega
        have HS := Lib.hid (show wr.heap[z]? = some (.cells (rowC (bothF F G 0) 128) 45) from HO.out.c)
        have BE := Lib.hid (AEh.out.1.trans (HO.out.b.e.mono (by have := AEh.out.2; omega)))
        have BR := Lib.hid HO.out.r
        clear HO
        go_wp2_with (first
          | (refine wpList_load_row rfl 45 (.tmp 9) rfl z rfl 45 (rowC (bothF F G 0) 128) (0, 0) _ HS.out Tryd.underlying45 rfl (by rw [rowC_size]; exact info59) ?_)
          | (go_at_call 12; refine (MKh.out _).mono ?_; rintro e w3 ⟨rfl, hb3⟩; obtain ⟨p0, p1, q0, q1⟩ := (BR.out.next hb3).two; have B5 := Lib.hid (BE.out.trans (hb3.mono BE.out.size)); clear hb3))
        refine bodyPost_ret (v := .agg #[.int .u64 x2, .int .u64 y2]) (by simp [results, Tryd.results6, go_sem, *]) rfl ⟨rfl, (B5.out.setCell (by show w.heap.size ≤ w.heap.size + 1 + 1; omega) _).setCell (by show w.heap.size ≤ w.heap.size + 1 + 1; omega) _⟩
  · have T := Lib.hid (show True from trivial)
    subst hk
    go_loopg [10] 128 (fun gh i wr => ∃ m : Nat, m ≤ 128 ∧ gh = 128 - m ∧ i = .int .i64 m ∧ Hid (B3 w X0 wr g h z F G (bothF F G 1) m))
    case atStart => exact ⟨0, by omega, rfl, rfl, H2⟩
    case round =>
      obtain ⟨m, hm, rfl, rfl, HO⟩ := hrel
      clear H2
      by_cases hlt : m < 128
      · have hmI : (m : Int) < 128 := by omega
        have SF := HO.out.b.b1.cell m
        rw [rowC_get _ _ _ hlt] at SF
        have SG := HO.out.b.b2.cell m
        rw [rowC_get _ _ _ hlt] at SG
        have SC := HO.out.c.cell m
        rw [rowC_get _ _ _ hlt] at SC
        have SZ := HO.out.c.frozen m
        obtain ⟨bb, hbb⟩ : ∃ bb, (decide (m < m) && bothF F G 1 m) = bb := ⟨_, rfl⟩
        rw [hbb] at SC
        clear hbb
        have E : Hid (∀ b, b = bothF F G 1 m → B3 w X0 (wr.setCell ⟨z, m, none⟩ (.bool b)) g h z F G (bothF F G 1) (m + 1)) := Lib.hid fun b hb => HO.out.step hlt hb
        have C : Hid (bothF F G 1 m = (F m || G m)) := Lib.hid (by simp [bothF])
        simp only [hlt, decide_true, Bool.true_and] at SF SG
        clear HO
        cases hF : F m <;> cases hG : G m
        all_goals (
          have D := C.out
          rw [hF, hG] at D
          rw [hF] at SF
          rw [hG] at SG
          have Dh := Lib.hid D
          clear C hF hG D
          go_wp2_with fail
          go_roundg (128 - (m + 1))
          case measure => omega
          case rel => exact ⟨m + 1, by omega, rfl, by go_num, Lib.hid (E.out _ (by rw [Dh.out]; rfl))⟩)
      · obtain rfl : m = 128 := by omega
        have HS := Lib.hid (show wr.heap[z]? = some (.cells (rowC (bothF F G 1) 128) 45) from HO.out.c)
        have BE := Lib.hid (AEh.out.1.trans (HO.out.b.e.mono (by have := AEh.out.2; omega)))
        have BR := Lib.hid HO.out.r
        clear HO
        go_wp2_with (first
          | (refine wpList_load_row rfl 45 (.tmp 9) rfl z rfl 45 (rowC (bothF F G 1) 128) (0, 0) _ HS.out Tryd.underlying45 rfl (by rw [rowC_size]; exact info59) ?_)
          | (go_at_call 12; refine (MKh.out _).mono ?_; rintro e w3 ⟨rfl, hb3⟩; obtain ⟨p0, p1, q0, q1⟩ := (BR.out.next hb3).two; have B5 := Lib.hid (BE.out.trans (hb3.mono BE.out.size)); clear hb3))
        refine bodyPost_ret (v := .agg #[.int .u64 x2, .int .u64 y2]) (by simp [results, Tryd.results6, go_sem, *]) rfl ⟨rfl, (B5.out.setCell (by show w.heap.size ≤ w.heap.size + 1 + 1; omega) _).setCell (by show w.heap.size ≤ w.heap.size + 1 + 1; omega) _⟩
  · have T := Lib.hid (show True from trivial)
    have d0 : (k == 0) = false := by rw [beq_eq_false_iff_ne]; exact hk
    have d1 : (k == 1) = false := by rw [beq_eq_false_iff_ne]; exact hk1
    go_loopg [10] 128 (fun gh i wr => ∃ m : Nat, m ≤ 128 ∧ gh = 128 - m ∧ i = .int .i64 m ∧ Hid (B3 w X0 wr g h z F G (bothF F G k) m))
    case atStart => exact ⟨0, by omega, rfl, rfl, H2⟩
    case round =>
      obtain ⟨m, hm, rfl, rfl, HO⟩ := hrel
      clear H2
      by_cases hlt : m < 128
      · have hmI : (m : Int) < 128 := by omega
        have SF := HO.out.b.b1.cell m
        rw [rowC_get _ _ _ hlt] at SF
        have SG := HO.out.b.b2.cell m
        rw [rowC_get _ _ _ hlt] at SG
        have SC := HO.out.c.cell m
        rw [rowC_get _ _ _ hlt] at SC
        have SZ := HO.out.c.frozen m
        obtain ⟨bb, hbb⟩ : ∃ bb, (decide (m < m) && bothF F G k m) = bb := ⟨_, rfl⟩
        rw [hbb] at SC
        clear hbb
        have E : Hid (∀ b, b = bothF F G k m → B3 w X0 (wr.setCell ⟨z, m, none⟩ (.bool b)) g h z F G (bothF F G k) (m + 1)) := Lib.hid fun b hb => HO.out.step hlt hb
        have C : Hid (bothF F G k m = (F m && !G m)) := Lib.hid (by simp [bothF, hk, hk1])
        simp only [hlt, decide_true, Bool.true_and] at SF SG
        clear HO
        cases hF : F m <;> cases hG : G m
        all_goals (
          have D := C.out
          rw [hF, hG] at D
          rw [hF] at SF
          rw [hG] at SG
          have Dh := Lib.hid D
          clear C hF hG D
          go_wp2_with fail
          go_roundg (128 - (m + 1))
          case measure => omega
          case rel => exact ⟨m + 1, by omega, rfl, by go_num, Lib.hid (E.out _ (by rw [Dh.out]; rfl))⟩)
      · obtain rfl : m = 128 := by omega
        have HS := Lib.hid (show wr.heap[z]? = some (.cells (rowC (bothF F G k) 128) 45) from HO.out.c)
        have BE := Lib.hid (AEh.out.1.trans (HO.out.b.e.mono (by have := AEh.out.2; omega)))
        have BR := Lib.hid HO.out.r
        clear HO
        go_wp2_with (first
          | (refine wpList_load_row rfl 45 (.tmp 9) rfl z rfl 45 (rowC (bothF F G k) 128) (0, 0) _ HS.out Tryd.underlying45 rfl (by rw [rowC_size]; exact info59) ?_)
          | (go_at_call 12; refine (MKh.out _).mono ?_; rintro e w3 ⟨rfl, hb3⟩; obtain ⟨p0, p1, q0, q1⟩ := (BR.out.next hb3).two; have B5 := Lib.hid (BE.out.trans (hb3.mono BE.out.size)); clear hb3))
        refine bodyPost_ret (v := .agg #[.int .u64 x2, .int .u64 y2]) (by simp [results, Tryd.results6, go_sem, *]) rfl ⟨rfl, (B5.out.setCell (by show w.heap.size ≤ w.heap.size + 1 + 1; omega) _).setCell (by show w.heap.size ≤ w.heap.size + 1 + 1; omega) _⟩
end Go.Proofs.YteebeiflipfbkaaDoor
