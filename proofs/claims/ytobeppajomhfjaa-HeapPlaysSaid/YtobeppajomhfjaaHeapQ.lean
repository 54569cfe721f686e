/- A heap of entries: Peek, Len, Pop. -/
import Derived.Test.YtobeppajomhfjaaHeapP
import Derived.WalkKit
import Derived.IntWalk
import Derived.Lib.Hide
import Derived.WalkSpells
import Derived.WalkLawsBesides
import Derived.OwnWalk
import Derived.BigRegion
import Derived.Deep.LoopGhost
import Derived.Deep.RegionHeld3
import Derived.Deep.QuietTactic
import Derived.BigQuiet
import Derived.Laws.CopyOwn
import Derived.Laws.MakeOwn
import Derived.Laws.OwnMore
import Derived.Laws.AppendOwnNone
namespace Go.Proofs.Ytobeppajomhfjaa
open Go.RowKit
set_option linter.unusedVariables false
set_option linter.unusedSimpArgs false
theorem eE_nil (i : Nat) : eE [] i = (0, 0, 0) := by rw [eE_eq]; rfl
set_option maxRecDepth 100000 in
set_option maxHeartbeats 4000000 in
theorem len_any {B g : Nat} {v : Value} {L : List Ent} {w : World} (h : HpA B w g v L) : Calls Try.prog 14 #[.pointer (some ⟨g, 0, none⟩)] w fun e w' => e = .returned (.int .i64 L.length) ∧ w' = w := by
  obtain ⟨hb, _, _, ho, _, _⟩ := h
  obtain ⟨n, hn⟩ : ∃ n, L.length = n := ⟨_, rfl⟩
  rw [hn] at ho ⊢
  obtain ⟨A, c, rfl⟩ := ownM_slice ho
  have g0 : w.cell? ⟨g, 0, none⟩ = some (.slice A n c) := hb.cell 0
  clear hb ho hn
  go_enter Try.func14, Try.ntmps14
  go_wp2_with fail
  go_ret
  exact ⟨rfl, rfl⟩
set_option maxRecDepth 100000 in
set_option maxHeartbeats 4000000 in
theorem peek_any {B g : Nat} {v : Value} {L : List Ent} {w : World} (h : HpA B w g v L) (hl : L.length ≤ 100000) : Calls Try.prog 15 #[.pointer (some ⟨g, 0, none⟩)] w fun e w' => e = .returned (.tuple #[aE (eE L 0), .bool (decide (0 < L.length))]) ∧ Below w.heap.size w w' := by
  obtain ⟨hb, _, _, ho, _, _⟩ := h
  rcases Nat.eq_zero_or_pos L.length with h0 | h0
  · obtain rfl := List.length_eq_zero_iff.1 h0
    rw [eE_nil]
    obtain ⟨A, c, rfl⟩ := ownM_slice ho
    have k0 : (w.alloc (.cells #[.int .i64 0, .int .i64 0, .int .i64 0] 24)).cell? ⟨g, 0, none⟩ = some (.slice A 0 c) := (hb.alloc (.cells #[.int .i64 0, .int .i64 0, .int .i64 0] 24)).cell 0
    have BX := Blk.new w #[.int .i64 0, .int .i64 0, .int .i64 0] 24
    have f0 := BX.frozen 0
    have f1 := BX.frozen 1
    have f2 := BX.frozen 2
    have hgl := hb.lt
    clear hb ho BX
    go_enter Try.func15, Try.ntmps15
    go_wp2_with fail
    have BX := Blk.new w #[.int .i64 0, .int .i64 0, .int .i64 0] 24
    have g0 := BX.cell 0
    have g1 := BX.cell 1
    have g2 := BX.cell 2
    refine bodyPost_ret (v := .tuple #[.agg #[.int .i64 0, .int .i64 0, .int .i64 0], .bool false]) (by simp [results, Try.results15, go_sem, g0, g1, g2]) rfl ⟨rfl, (Below.refl w.heap.size w).alloc (Nat.le_refl _) _⟩
  · obtain ⟨r, c, rfl, _, _⟩ := ownM_head ho h0
    have d0 := ownM_at ho (i := 0) (j := 0) h0 (by omega)
    have d1 := ownM_at ho (i := 0) (j := 1) h0 (by omega)
    have d2 := ownM_at ho (i := 0) (j := 2) h0 (by omega)
    unfold eE
    obtain ⟨p, hp⟩ : ∃ x, zE L 0 0 = x := ⟨_, rfl⟩
    obtain ⟨q, hq⟩ : ∃ x, zE L 0 1 = x := ⟨_, rfl⟩
    obtain ⟨s, hs⟩ : ∃ x, zE L 0 2 = x := ⟨_, rfl⟩
    rw [hp] at d0 ⊢
    rw [hq] at d1 ⊢
    rw [hs] at d2 ⊢
    have hr := lt_of_cell d0
    have hd : decide (0 < L.length) = true := decide_eq_true h0
    rw [hd]
    obtain ⟨n, hn⟩ : ∃ n, L.length = n := ⟨_, rfl⟩
    rw [hn] at h0 hb hl
    have hni : (0 : Int) < (n : Int) := by omega
    have hnb : ((n : Int) == 0) = false := by simp; omega
    have ha := (Below.refl w.heap.size w).alloc (Nat.le_refl _) (.cells #[.int .i64 0, .int .i64 0, .int .i64 0] 24)
    have k0 : (w.alloc (.cells #[.int .i64 0, .int .i64 0, .int .i64 0] 24)).cell? ⟨g, 0, none⟩ = some (.slice (some ⟨r, 0, none⟩) n c) := (hb.alloc (.cells #[.int .i64 0, .int .i64 0, .int .i64 0] 24)).cell 0
    have e0 : (w.alloc (.cells #[.int .i64 0, .int .i64 0, .int .i64 0] 24)).cell? ⟨r, 0, none⟩ = some (.int .i64 p) := (ha.cell (p := ⟨r, 0, none⟩) hr).trans (by simpa using d0)
    have e1 : (w.alloc (.cells #[.int .i64 0, .int .i64 0, .int .i64 0] 24)).cell? ⟨r, 1, none⟩ = some (.int .i64 q) := (ha.cell (p := ⟨r, 1, none⟩) hr).trans (by simpa using d1)
    have e2 : (w.alloc (.cells #[.int .i64 0, .int .i64 0, .int .i64 0] 24)).cell? ⟨r, 2, none⟩ = some (.int .i64 s) := (ha.cell (p := ⟨r, 2, none⟩) hr).trans (by simpa using d2)
    have hgl := hb.lt
    clear hb ho d0 d1 d2 hp hq hs hd ha hn
    go_enter Try.func15, Try.ntmps15
    go_wp2_with fail
    have BX := Blk.new w #[.int .i64 p, .int .i64 q, .int .i64 s] 24
    have g0 := BX.cell 0
    have g1 := BX.cell 1
    have g2 := BX.cell 2
    refine bodyPost_ret (v := .tuple #[.agg #[.int .i64 p, .int .i64 q, .int .i64 s], .bool true]) (by simp [results, Try.results15, go_sem, g0, g1, g2]) rfl ⟨rfl, (Below.refl w.heap.size w).alloc (Nat.le_refl _) _⟩
theorem rowM_take {m n k : Nat} {z : Nat → Nat → Int} (hk : k ≤ n) : (rowM m z n).take (k * m) = rowM m z k := by
  unfold rowM rowL
  rw [← List.map_take, ← List.map_take, List.take_range, Nat.min_eq_left (Nat.mul_le_mul_right m hk)]
theorem own_cut {w : World} {B r n c k : Nat} {e : TypeId} {m : Nat} {z : Nat → Nat → Int} (h : w.ownsRow B e m (.slice (some ⟨r, 0, none⟩) n c) n (rowM m z n)) (hk : k ≤ n) : w.ownsRow B e m (.slice (some ⟨r, 0, none⟩) k c) k (rowM m z k) := by
  refine ⟨rowM_len .., ?_⟩
  rcases h.2 with ⟨hv, _⟩ | ⟨g, cap, cur, hv, hg, hh, hnc, hcm, hcs, ht⟩
  · cases hv
  · simp only [Value.slice.injEq, Option.some.injEq, Addr.mk.injEq, and_true, true_and] at hv
    obtain ⟨rfl, rfl⟩ := hv
    refine .inr ⟨r, c, cur, rfl, hg, hh, by omega, hcm, hcs, ?_⟩
    rw [← rowM_take hk, ← ht, List.take_take, Nat.min_eq_left (Nat.mul_le_mul_right m hk)]
theorem cut_zE {L : List Ent} {i j : Nat} (hi : i < L.length - 1) : zE (L.set 0 (eE L (L.length - 1))) i j = zE (cutE L) i j := by
  unfold cutE zE
  rw [List.getD_eq_getElem?_getD, List.getD_eq_getElem?_getD, List.getElem?_take_of_lt hi]
theorem cut_mem {L : List Ent} {y : Ent} (h0 : 0 < L.length) (hy : y ∈ cutE L) : y ∈ L := (cutE_perm h0).mem_iff.1 (List.mem_cons_of_mem _ hy)
theorem pop_nil {B g : Nat} {v : Value} {w : World} (h : HpA B w g v []) : Calls Try.prog 27 #[.pointer (some ⟨g, 0, none⟩)] w fun e w' => e = .returned (.tuple #[.agg #[.int .i64 0, .int .i64 0, .int .i64 0], .bool false]) ∧ Below w.heap.size w w' := by
  have KP := Lib.hid (peek_any (h.fr (S := fun _ => False) ((Fr.refl _ w).alloc (.cells #[.int .i64 0, .int .i64 0, .int .i64 0] 24)) (fun q => q) (fun _ _ q => q)) (by simp))
  rw [eE_nil] at KP
  unfold aE at KP
  have HR := Lib.hid (Blk.new w #[.int .i64 0, .int .i64 0, .int .i64 0] 24)
  have EE : Hid (Below w.heap.size w (w.alloc (.cells #[.int .i64 0, .int .i64 0, .int .i64 0] 24))) := Lib.hid ((Below.refl w.heap.size w).alloc (Nat.le_refl _) _)
  clear h
  go_enter Try.func27, Try.ntmps27
  go_wp2_with fail
  refine KP.out.mono ?_
  rintro e w1 ⟨rfl, hb⟩
  have hdf : decide (0 < ([] : List Ent).length) = false := rfl
  rw [hdf]
  have HR1 := Lib.hid (HR.out.next hb)
  have E1 := Lib.hid (EE.out.trans (hb.mono EE.out.size))
  have B2 := HR1.out.alloc (.cells #[.int .i64 0, .int .i64 0, .int .i64 0] 24)
  have g0 := B2.cell 0
  have g1 := B2.cell 1
  have g2 := B2.cell 2
  have f0 := B2.frozen 0
  have f1 := B2.frozen 1
  have f2 := B2.frozen 2
  have B4 := Blk.new w1 #[.int .i64 0, .int .i64 0, .int .i64 0] 24
  have j0 := B4.cell 0
  have j1 := B4.cell 1
  have j2 := B4.cell 2
  clear hb hdf B2 B4
  go_wp2_with fail
  have EF : Below w.heap.size w ((((w1.alloc (.cells #[.int .i64 0, .int .i64 0, .int .i64 0] 24)).setCell ⟨w.heap.size, 0, none⟩ (.int .i64 0)).setCell ⟨w.heap.size, 1, none⟩ (.int .i64 0)).setCell ⟨w.heap.size, 2, none⟩ (.int .i64 0)) := ((((E1.out.alloc E1.out.size _).setCell (p := ⟨w.heap.size, 0, none⟩) (Nat.le_refl _) _).setCell (p := ⟨w.heap.size, 1, none⟩) (Nat.le_refl _) _).setCell (p := ⟨w.heap.size, 2, none⟩) (Nat.le_refl _) _)
  have BF := ((((HR1.out.alloc (.cells #[.int .i64 0, .int .i64 0, .int .i64 0] 24)).set 0 (.int .i64 0)).set 1 (.int .i64 0)).set 2 (.int .i64 0))
  have g0 := BF.cell 0
  have g1 := BF.cell 1
  have g2 := BF.cell 2
  refine bodyPost_ret (v := .tuple #[.agg #[.int .i64 0, .int .i64 0, .int .i64 0], .bool false]) (by simp [results, Try.results27, go_sem, g0, g1, g2]) rfl ⟨rfl, EF⟩
set_option maxRecDepth 100000 in
set_option maxHeartbeats 20000000 in
theorem pop_some (B g : Nat) (v : Value) (L : List Ent) (w : World) (h : HpA B w g v L) (h0 : 0 < L.length) (hl : L.length ≤ 1000) : Calls Try.prog 27 #[.pointer (some ⟨g, 0, none⟩)] w fun e w' => e = .returned (.tuple #[aE (eE L 0), .bool true]) ∧ ∃ v' M, M.Perm (cutE L) ∧ HpA B w' g v' M ∧ Fr (hpS g v) w w' ∧ (∀ i, v'.ownBlock = some i → v.ownBlock = some i) := by
  have KP := Lib.hid (peek_any (h.fr (S := fun _ => False) ((Fr.refl _ w).alloc (.cells #[.int .i64 0, .int .i64 0, .int .i64 0] 24)) (fun q => q) (fun _ _ q => q)) (by omega))
  have hd : decide (0 < L.length) = true := decide_eq_true h0
  rw [hd] at KP
  obtain ⟨hb, hg, hne, ho, hw, hh⟩ := h
  obtain ⟨r, c, rfl, hrB, hnc⟩ := ownM_head ho h0
  have hcm : c ≤ maxLen := by
    rcases ho.2 with ⟨hv, _⟩ | ⟨_, cap', cur, hv, _, _, _, hc, _⟩
    · cases hv
    · simp only [Value.slice.injEq] at hv; omega
  obtain ⟨n, hn⟩ : ∃ n, L.length = n := ⟨_, rfl⟩
  have HN := Lib.hid hn
  rw [hn] at ho hl hnc h0 hb
  have hgr : g ≠ r := fun e => hne (by rw [e, hn]; rfl)
  obtain ⟨l, hl1⟩ : ∃ l, n - 1 = l := ⟨_, rfl⟩
  have hln : l < n := by omega
  have hN1 : Hid (n = l + 1) := Lib.hid (by omega)
  have hw1 : IntKind.i64.wrap ((n : Int) - 1) = (l : Int) := by rw [IntWalk.i64_in _ (by omega)]; omega
  have hlc : l ≤ c := by omega
  have hlci : (l : Int) ≤ (c : Int) := by omega
  have hli : (l : Int) < (n : Int) := by omega
  have h0i : (0 : Int) < (n : Int) := by omega
  have HL0 := Lib.hid (ho.lt r rfl).2
  have HGL := Lib.hid hb.lt
  have HR := Lib.hid (Blk.new w #[.int .i64 0, .int .i64 0, .int .i64 0] 24)
  have HG := Lib.hid (hb.alloc (.cells #[.int .i64 0, .int .i64 0, .int .i64 0] 24))
  have EE : Hid (Below w.heap.size w (w.alloc (.cells #[.int .i64 0, .int .i64 0, .int .i64 0] 24))) := Lib.hid ((Below.refl w.heap.size w).alloc (Nat.le_refl _) _)
  have HO := Lib.hid ho; have HW := Lib.hid hw; have HH := Lib.hid hh; have HBG := Lib.hid hg
  have e1 : eE L 0 = (zE L 0 0, zE L 0 1, zE L 0 2) := rfl
  have e2 : eE L l = (zE L l 0, zE L l 1, zE L l 2) := rfl
  obtain ⟨p, hp⟩ : ∃ x, zE L 0 0 = x := ⟨_, rfl⟩
  obtain ⟨q, hq⟩ : ∃ x, zE L 0 1 = x := ⟨_, rfl⟩
  obtain ⟨s, hs⟩ : ∃ x, zE L 0 2 = x := ⟨_, rfl⟩
  rw [hp, hq, hs] at e1
  rw [e1] at KP ⊢
  obtain ⟨a, ha⟩ : ∃ x, zE L l 0 = x := ⟨_, rfl⟩
  obtain ⟨d, hd'⟩ : ∃ x, zE L l 1 = x := ⟨_, rfl⟩
  obtain ⟨f, hf⟩ : ∃ x, zE L l 2 = x := ⟨_, rfl⟩
  rw [ha, hd', hf] at e2
  have HE1 := Lib.hid e1; have HE2 := Lib.hid e2
  have HC : Hid (zE L 0 0 = p ∧ zE L 0 1 = q ∧ zE L 0 2 = s ∧ zE L l 0 = a ∧ zE L l 1 = d ∧ zE L l 2 = f) := Lib.hid ⟨hp, hq, hs, ha, hd', hf⟩
  unfold aE at KP ⊢
  dsimp only at KP ⊢
  clear hd hb hg hne ho hw hh hn hl1 e1 e2 hp hq hs ha hd' hf
  go_enter Try.func27, Try.ntmps27
  go_wp2_with fail
  refine KP.out.mono ?_
  rintro e w1 ⟨rfl, hb⟩
  have HR1 := Lib.hid (HR.out.next hb)
  have HG1 := Lib.hid (HG.out.next hb)
  have E1 := Lib.hid (EE.out.trans (hb.mono EE.out.size))
  have g0 : (w1.alloc (.cells #[.int .i64 p, .int .i64 q, .int .i64 s] 24)).cell? ⟨g, 0, none⟩ = some (.slice (some ⟨r, 0, none⟩) n c) := (HG1.out.alloc (.cells #[.int .i64 p, .int .i64 q, .int .i64 s] 24)).cell 0
  clear hb HR HG EE
  go_wp2_with fail
  have BR := HR1.out.alloc (.cells #[.int .i64 p, .int .i64 q, .int .i64 s] 24)
  have BG := HG1.out.alloc (.cells #[.int .i64 p, .int .i64 q, .int .i64 s] 24)
  have BX := Blk.new w1 #[.int .i64 p, .int .i64 q, .int .i64 s] 24
  have BE : Below w.heap.size w (w1.alloc (.cells #[.int .i64 p, .int .i64 q, .int .i64 s] 24)) := E1.out.alloc E1.out.size _
  obtain ⟨g4, hg4⟩ : ∃ g, w1.heap.size = g := ⟨_, rfl⟩
  have hg4w : w.heap.size < g4 := by have := HR1.out.lt; omega
  obtain ⟨V2, hV2⟩ : ∃ V, (w1.alloc (.cells #[.int .i64 p, .int .i64 q, .int .i64 s] 24)) = V := ⟨_, rfl⟩
  rw [hg4] at BX ⊢
  rw [hV2] at BR BG BX BE g0 ⊢
  have HR2 := Lib.hid BR; have HG2 := Lib.hid BG; have HX2 := Lib.hid BX; have E2 := Lib.hid BE
  have HO2 := Lib.hid (ownM_below HO.out BE)
  clear BR BG BX BE hV2 hg4 HR1 HG1 E1 g0 hw1 KP
  have sK : ∀ X, Blk X g 55 #[.slice (some ⟨r, 0, none⟩) n c] → (fun X : World => X.cell? ⟨g, 0, none⟩ = some (.slice (some ⟨r, 0, none⟩) n c)) X := fun X hX => hX.cell 0
  refine wp_region_held_drew (S := (fun X : World => X.cell? ⟨g, 0, none⟩ = some (.slice (some ⟨r, 0, none⟩) n c))) (by kernel_rfl) (sK _ HG2.out) (fun hHeld => ?_)
  clear hHeld
  refine wpAnyH_take (i := 0) (v := ?_) rfl (by kernel_rfl) (by kernel_rfl) (by kernel_rfl) (fun _ _ _ h => h) (Or.inl ⟨by rfl, ?_⟩) (sK _ HG2.out) ?_
  rotate_left
  · (intro wS hSw; (try dsimp only at hSw); go_simp; try with_reducible rfl)
  simp only [Act.put, List.getElem_toArray, List.getElem_cons_zero, List.getElem_cons_succ, List.setIfInBounds_toArray, List.set_cons_zero, List.set_cons_succ]
  refine wpAnyH_take (i := 1) (v := ?_) rfl (by kernel_rfl) (by kernel_rfl) (by kernel_rfl) (fun _ _ _ h => h) (Or.inl ⟨by rfl, ?_⟩) (sK _ HG2.out) ?_
  rotate_left
  · (intro wS hSw; (try dsimp only at hSw); go_simp; try with_reducible rfl)
  simp only [Act.put, List.getElem_toArray, List.getElem_cons_zero, List.getElem_cons_succ, List.setIfInBounds_toArray, List.set_cons_zero, List.set_cons_succ]
  refine wpAnyH_take (i := 2) (v := ?_) rfl (by kernel_rfl) (by kernel_rfl) (by kernel_rfl) (fun _ _ _ h => h) (Or.inl ⟨by rfl, ?_⟩) (sK _ HG2.out) ?_
  rotate_left
  · (intro wS hSw; (try dsimp only at hSw); go_simp; try with_reducible rfl)
  simp only [Act.put, List.getElem_toArray, List.getElem_cons_zero, List.getElem_cons_succ, List.setIfInBounds_toArray, List.set_cons_zero, List.set_cons_succ]
  refine wpAnyH_take (i := 3) (v := ?_) rfl (by kernel_rfl) (by kernel_rfl) (by kernel_rfl) (fun _ _ _ h => h) (Or.inl ⟨by rfl, ?_⟩) (sK _ HG2.out) ?_
  rotate_left
  · (intro wS hSw; (try dsimp only at hSw); go_simp; try with_reducible rfl)
  simp only [Act.put, List.getElem_toArray, List.getElem_cons_zero, List.getElem_cons_succ, List.setIfInBounds_toArray, List.set_cons_zero, List.set_cons_succ]
  refine wpAnyH_take (i := 4) (v := ?_) rfl (by kernel_rfl) (by kernel_rfl) (by kernel_rfl) (fun _ _ _ h => h) (Or.inl ⟨by rfl, ?_⟩) (sK _ HG2.out) ?_
  rotate_left
  · (intro wS hSw; (try dsimp only at hSw); go_simp; try with_reducible rfl)
  simp only [Act.put, List.getElem_toArray, List.getElem_cons_zero, List.getElem_cons_succ, List.setIfInBounds_toArray, List.set_cons_zero, List.set_cons_succ]
  refine wpAnyH_take (i := 5) (v := ?_) rfl (by kernel_rfl) (by kernel_rfl) (by kernel_rfl) (fun _ _ _ h => h) (Or.inl ⟨by rfl, ?_⟩) (sK _ HG2.out) ?_
  rotate_left
  · (intro wS hSw; (try dsimp only at hSw); go_simp; try with_reducible rfl)
  simp only [Act.put, List.getElem_toArray, List.getElem_cons_zero, List.getElem_cons_succ, List.setIfInBounds_toArray, List.set_cons_zero, List.set_cons_succ]
  refine wpAnyH_take (i := 6) (v := ?_) rfl (by kernel_rfl) (by kernel_rfl) (by kernel_rfl) (fun _ _ _ h => h) (Or.inl ⟨by rfl, ?_⟩) (sK _ HG2.out) ?_
  rotate_left
  · (intro wS hSw; (try dsimp only at hSw); go_simp; try with_reducible rfl)
  simp only [Act.put, List.getElem_toArray, List.getElem_cons_zero, List.getElem_cons_succ, List.setIfInBounds_toArray, List.set_cons_zero, List.set_cons_succ]
  refine wpAnyH_take (i := 7) (v := ?_) rfl (by kernel_rfl) (by kernel_rfl) (by kernel_rfl) (fun _ _ _ h => h) (Or.inl ⟨by rfl, ?_⟩) (sK _ HG2.out) ?_
  rotate_left
  · (intro wS hSw; (try dsimp only at hSw); go_simp; try with_reducible rfl)
  simp only [Act.put, List.getElem_toArray, List.getElem_cons_zero, List.getElem_cons_succ, List.setIfInBounds_toArray, List.set_cons_zero, List.set_cons_succ]
  refine wpAnyH_take (i := 8) (v := ?_) rfl (by kernel_rfl) (by kernel_rfl) (by kernel_rfl) (fun _ _ _ h => h) (Or.inl ⟨by rfl, ?_⟩) (sK _ HG2.out) ?_
  rotate_left
  · (intro wS hSw; (try dsimp only at hSw); go_simp; try with_reducible rfl)
  simp only [Act.put, List.getElem_toArray, List.getElem_cons_zero, List.getElem_cons_succ, List.setIfInBounds_toArray, List.set_cons_zero, List.set_cons_succ]
  refine wpAnyH_take (i := 9) (v := ?_) rfl (by kernel_rfl) (by kernel_rfl) (by kernel_rfl) (fun _ _ _ h => h) (Or.inl ⟨by rfl, ?_⟩) (sK _ HG2.out) ?_
  rotate_left
  · (intro wS hSw; (try dsimp only at hSw); go_simp; try with_reducible rfl)
  simp only [Act.put, List.getElem_toArray, List.getElem_cons_zero, List.getElem_cons_succ, List.setIfInBounds_toArray, List.set_cons_zero, List.set_cons_succ]
  refine wpAnyH_ready (rs := [10]) (by kernel_rfl) (by simp) ?_
  refine AllReadyH.cons rfl (fun K hK => ?_) AllReadyH.nil
  have d0 : V2.cell? ⟨r, l * 3, none⟩ = some (.int .i64 a) := by have := ownM_at HO2.out (i := l) (j := 0) hln (by omega); rw [HC.out.2.2.2.1] at this; exact this
  have e0 : V2.drew.cell? ⟨r, l * 3, none⟩ = some (.int .i64 a) := d0
  have d1 : V2.cell? ⟨r, l * 3 + 1, none⟩ = some (.int .i64 d) := by have := ownM_at HO2.out (i := l) (j := 1) hln (by omega); rw [HC.out.2.2.2.2.1] at this; exact this
  have e1 : V2.drew.cell? ⟨r, l * 3 + 1, none⟩ = some (.int .i64 d) := d1
  have d2 : V2.cell? ⟨r, l * 3 + 2, none⟩ = some (.int .i64 f) := by have := ownM_at HO2.out (i := l) (j := 2) hln (by omega); rw [HC.out.2.2.2.2.2] at this; exact this
  have e2 : V2.drew.cell? ⟨r, l * 3 + 2, none⟩ = some (.int .i64 f) := d2
  go_simp
  clear d0 d1 d2 e0 e1 e2
  refine hK.out _ _ (sK _ HG2.out) (fun hHeld => ?_)
  clear hK K hHeld
  try simp only [Act.put, List.getElem_toArray, List.getElem_cons_zero, List.getElem_cons_succ, List.setIfInBounds_toArray, List.set_cons_zero, List.set_cons_succ]
  refine wpAnyH_take (i := 11) (v := ?_) rfl (by kernel_rfl) (by kernel_rfl) (by kernel_rfl) (fun _ _ _ h => h) (Or.inl ⟨by rfl, ?_⟩) (sK _ HG2.out) ?_
  rotate_left
  · (intro wS hSw; (try dsimp only at hSw); go_simp; try with_reducible rfl)
  simp only [Act.put, List.getElem_toArray, List.getElem_cons_zero, List.getElem_cons_succ, List.setIfInBounds_toArray, List.set_cons_zero, List.set_cons_succ]
  refine wpAnyH_ready (rs := [12]) (by kernel_rfl) (by simp) ?_
  refine AllReadyH.cons rfl (fun K hK => ?_) AllReadyH.nil
  have d0 : V2.cell? ⟨r, 0, none⟩ = some (.int .i64 p) := by have := ownM_at HO2.out (i := 0) (j := 0) h0 (by omega); rw [HC.out.1] at this; simpa using this
  have e0 : V2.drew.cell? ⟨r, 0, none⟩ = some (.int .i64 p) := d0
  have f0 : V2.frozen? ⟨r, 0, none⟩ = false := HO2.out.frozenAt _
  have zz0 : V2.drew.frozen? ⟨r, 0, none⟩ = false := f0
  have d1 : V2.cell? ⟨r, 1, none⟩ = some (.int .i64 q) := by have := ownM_at HO2.out (i := 0) (j := 1) h0 (by omega); rw [HC.out.2.1] at this; simpa using this
  have e1 : V2.drew.cell? ⟨r, 1, none⟩ = some (.int .i64 q) := d1
  have f1 : V2.frozen? ⟨r, 1, none⟩ = false := HO2.out.frozenAt _
  have zz1 : V2.drew.frozen? ⟨r, 1, none⟩ = false := f1
  have d2 : V2.cell? ⟨r, 2, none⟩ = some (.int .i64 s) := by have := ownM_at HO2.out (i := 0) (j := 2) h0 (by omega); rw [HC.out.2.2.1] at this; simpa using this
  have e2 : V2.drew.cell? ⟨r, 2, none⟩ = some (.int .i64 s) := d2
  have f2 : V2.frozen? ⟨r, 2, none⟩ = false := HO2.out.frozenAt _
  have zz2 : V2.drew.frozen? ⟨r, 2, none⟩ = false := f2
  go_simp
  clear d0 d1 d2 e0 e1 e2 f0 f1 f2 zz0 zz1 zz2
  have hO := row_set (i := 0) (x := a) (y := d) (z := f) HN.out (by omega) HO2.out
  simp only [Nat.zero_mul, Nat.zero_add] at hO
  have hG : Blk (((V2.setCell ⟨r, 0, none⟩ (.int .i64 a)).setCell ⟨r, 1, none⟩ (.int .i64 d)).setCell ⟨r, 2, none⟩ (.int .i64 f)).drew g 55 #[.slice (some ⟨r, 0, none⟩) n c] := ((HG2.out.far (p := ⟨r, 0, none⟩) hgr _).far (p := ⟨r, 1, none⟩) hgr _).far (p := ⟨r, 2, none⟩) hgr _
  have hrw : w.heap.size ≠ r := by have := HL0.out; omega
  have hr4 : g4 ≠ r := by have := HL0.out; omega
  have hR : Blk (((V2.setCell ⟨r, 0, none⟩ (.int .i64 a)).setCell ⟨r, 1, none⟩ (.int .i64 d)).setCell ⟨r, 2, none⟩ (.int .i64 f)).drew w.heap.size 24 #[.int .i64 0, .int .i64 0, .int .i64 0] := ((HR2.out.far (p := ⟨r, 0, none⟩) hrw _).far (p := ⟨r, 1, none⟩) hrw _).far (p := ⟨r, 2, none⟩) hrw _
  have hX : Blk (((V2.setCell ⟨r, 0, none⟩ (.int .i64 a)).setCell ⟨r, 1, none⟩ (.int .i64 d)).setCell ⟨r, 2, none⟩ (.int .i64 f)).drew g4 24 #[.int .i64 p, .int .i64 q, .int .i64 s] := ((HX2.out.far (p := ⟨r, 0, none⟩) hr4 _).far (p := ⟨r, 1, none⟩) hr4 _).far (p := ⟨r, 2, none⟩) hr4 _
  have hF : Fr (fun x => x = r) w (((V2.setCell ⟨r, 0, none⟩ (.int .i64 a)).setCell ⟨r, 1, none⟩ (.int .i64 d)).setCell ⟨r, 2, none⟩ (.int .i64 f)).drew := (((((Fr.refl (fun x => x = r) w).below E2.out).setCell (p := ⟨r, 0, none⟩) (Or.inr rfl) _).setCell (p := ⟨r, 1, none⟩) (Or.inr rfl) _).setCell (p := ⟨r, 2, none⟩) (Or.inr rfl) _).drew
  obtain ⟨V3, hV3⟩ : ∃ V, (((V2.setCell ⟨r, 0, none⟩ (.int .i64 a)).setCell ⟨r, 1, none⟩ (.int .i64 d)).setCell ⟨r, 2, none⟩ (.int .i64 f)).drew = V := ⟨_, rfl⟩
  rw [hV3] at hO hG hR hX hF ⊢
  clear hV3
  have HO3 := Lib.hid hO; have HG3 := Lib.hid hG; have HR3 := Lib.hid hR; have HX3 := Lib.hid hX; have FF3 := Lib.hid hF
  clear hO hG hR hX hF
  refine hK.out _ _ (sK _ HG3.out) (fun hHeld => ?_)
  clear hK K hHeld
  try simp only [Act.put, List.getElem_toArray, List.getElem_cons_zero, List.getElem_cons_succ, List.setIfInBounds_toArray, List.set_cons_zero, List.set_cons_succ]
  refine wpAnyH_done (by kernel_rfl) ?_ _
  have hgw : g ≠ w.heap.size := by have := HGL.out; omega
  have hgw4 : g ≠ g4 := by have := HGL.out; omega
  have hO4 : World.ownsRow (V3.setCell ⟨g, 0, none⟩ (.slice (some ⟨r, 0, none⟩) l c)) B 24 3 (.slice (some ⟨r, 0, none⟩) n c) n _ := HO3.out.kept (grownBy_setCell' V3 g _) (Or.inr (fun e => hgr (by cases e; rfl)))
  have HO4 : Hid (World.ownsRow (V3.setCell ⟨g, 0, none⟩ (.slice (some ⟨r, 0, none⟩) l c)) B 24 3 (.slice (some ⟨r, 0, none⟩) l c) l (rowM 3 (zE (cutE L)) l)) := Lib.hid (by
    have := own_cut hO4 (k := l) (by omega)
    rw [rowM_congr (b := zE (cutE L)) (fun i j hi hj => by rw [← HE2.out, show l = L.length - 1 by have := HN.out; have := hN1.out; omega]; exact cut_zE (by have := HN.out; have := hN1.out; omega))] at this
    exact this)
  have HG4 : Hid (Blk (V3.setCell ⟨g, 0, none⟩ (.slice (some ⟨r, 0, none⟩) l c)) g 55 #[.slice (some ⟨r, 0, none⟩) l c]) := Lib.hid (HG3.out.set 0 _)
  have HR4 : Hid (Blk (V3.setCell ⟨g, 0, none⟩ (.slice (some ⟨r, 0, none⟩) l c)) w.heap.size 24 #[.int .i64 0, .int .i64 0, .int .i64 0]) := Lib.hid (HR3.out.far (p := ⟨g, 0, none⟩) (Ne.symm hgw) _)
  have HX4 : Hid (Blk (V3.setCell ⟨g, 0, none⟩ (.slice (some ⟨r, 0, none⟩) l c)) g4 24 #[.int .i64 p, .int .i64 q, .int .i64 s]) := Lib.hid (HX3.out.far (p := ⟨g, 0, none⟩) (Ne.symm hgw4) _)
  have FF4 : Hid (Fr (hpS g (.slice (some ⟨r, 0, none⟩) n c)) w (V3.setCell ⟨g, 0, none⟩ (.slice (some ⟨r, 0, none⟩) l c))) := Lib.hid ((FF3.out.mono (T := hpS g (.slice (some ⟨r, 0, none⟩) n c)) (fun i _ e => Or.inr (by rw [e]; rfl))).setCell (p := ⟨g, 0, none⟩) (Or.inr (Or.inl rfl)) _)
  have hcl : (cutE L).length = l := by rw [cutE_len, HN.out, hN1.out]; rfl
  have KS : Calls Try.prog 36 #[.pointer (some ⟨g, 0, none⟩), .int .i64 0] (V3.setCell ⟨g, 0, none⟩ (.slice (some ⟨r, 0, none⟩) l c)) (RisR B r l c (cutE L) (V3.setCell ⟨g, 0, none⟩ (.slice (some ⟨r, 0, none⟩) l c))) := sink_any B g r c 0 l (cutE L) _ HG4.out hgr hcl HO4.out (sink_init HH.out) (Nat.zero_le _) (by omega)
  have HKS := Lib.hid KS
  have HCL := Lib.hid hcl
  have g0 : V3.cell? ⟨g, 0, none⟩ = some (.slice (some ⟨r, 0, none⟩) n c) := HG3.out.cell 0
  have f0 : V3.frozen? ⟨g, 0, none⟩ = false := HG3.out.frozen 0
  clear hO4 KS hcl HO3 HG3 HR3 HX3 FF3 HO4
  go_wp2_with fail
  refine HKS.out.mono ?_
  rintro e w5 ⟨rfl, M, hp, hh, ho, hf⟩
  have P1 := Lib.hid hp; have P2 := Lib.hid hh; have P3 := Lib.hid ho
  have HR5 := Lib.hid (HR4.out.fr hf hrw)
  have HX5 := Lib.hid (HX4.out.fr hf hr4)
  have HG5 := Lib.hid (HG4.out.fr hf hgr)
  have FF5 := Lib.hid (FF4.out.trans hf (fun i _ e => Or.inr (by rw [e]; rfl)))
  clear hp hh ho hf g0 f0 HKS
  have d0 : w5.cell? ⟨g4, 0, none⟩ = some (.int .i64 p) := HX5.out.cell 0
  have e0 : w5.cell? ⟨w.heap.size, 0, none⟩ = some (.int .i64 0) := HR5.out.cell 0
  have f0 : w5.frozen? ⟨w.heap.size, 0, none⟩ = false := HR5.out.frozen 0
  have d1 : w5.cell? ⟨g4, 1, none⟩ = some (.int .i64 q) := HX5.out.cell 1
  have e1 : w5.cell? ⟨w.heap.size, 1, none⟩ = some (.int .i64 0) := HR5.out.cell 1
  have f1 : w5.frozen? ⟨w.heap.size, 1, none⟩ = false := HR5.out.frozen 1
  have d2 : w5.cell? ⟨g4, 2, none⟩ = some (.int .i64 s) := HX5.out.cell 2
  have e2 : w5.cell? ⟨w.heap.size, 2, none⟩ = some (.int .i64 0) := HR5.out.cell 2
  have f2 : w5.frozen? ⟨w.heap.size, 2, none⟩ = false := HR5.out.frozen 2
  go_wp2_with fail
  have BF : Blk (((w5.setCell ⟨w.heap.size, 0, none⟩ (.int .i64 p)).setCell ⟨w.heap.size, 1, none⟩ (.int .i64 q)).setCell ⟨w.heap.size, 2, none⟩ (.int .i64 s)) w.heap.size 24 #[.int .i64 p, .int .i64 q, .int .i64 s] := ((HR5.out.set 0 (.int .i64 p)).set 1 (.int .i64 q)).set 2 (.int .i64 s)
  have FF6 : Fr (hpS g (.slice (some ⟨r, 0, none⟩) n c)) w (((w5.setCell ⟨w.heap.size, 0, none⟩ (.int .i64 p)).setCell ⟨w.heap.size, 1, none⟩ (.int .i64 q)).setCell ⟨w.heap.size, 2, none⟩ (.int .i64 s)) := ((FF5.out.setCell (p := ⟨w.heap.size, 0, none⟩) (Or.inl (Nat.le_refl _)) _).setCell (p := ⟨w.heap.size, 1, none⟩) (Or.inl (Nat.le_refl _)) _).setCell (p := ⟨w.heap.size, 2, none⟩) (Or.inl (Nat.le_refl _)) _
  have FR6 : Fr (fun i => i = w.heap.size) w5 (((w5.setCell ⟨w.heap.size, 0, none⟩ (.int .i64 p)).setCell ⟨w.heap.size, 1, none⟩ (.int .i64 q)).setCell ⟨w.heap.size, 2, none⟩ (.int .i64 s)) := (((Fr.refl (fun i => i = w.heap.size) w5).setCell (p := ⟨w.heap.size, 0, none⟩) (Or.inr rfl) _).setCell (p := ⟨w.heap.size, 1, none⟩) (Or.inr rfl) _).setCell (p := ⟨w.heap.size, 2, none⟩) (Or.inr rfl) _
  have g0 := BF.cell 0
  have g1 := BF.cell 1
  have g2 := BF.cell 2
  have hml : M.length = l := by rw [P1.out.length_eq, HCL.out]
  refine bodyPost_ret (v := .tuple #[.agg #[.int .i64 p, .int .i64 q, .int .i64 s], .bool true]) (by simp [results, Try.results27, go_sem, g0, g1, g2]) rfl ⟨rfl, .slice (some ⟨r, 0, none⟩) l c, M, P1.out, ⟨HG5.out.fr FR6 hgw, HBG.out, fun e => hgr (by cases e; rfl), by rw [hml]; exact ownM_fr P3.out FR6 (fun i hi q => hrw (by cases hi; exact q.symm)), fun y hy => HW.out y (cut_mem (by rw [HN.out]; omega) (P1.out.mem_iff.1 hy)), P2.out⟩, FF6, fun i hi => hi⟩
end Go.Proofs.Ytobeppajomhfjaa
