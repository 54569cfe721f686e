/- A heap of entries: Push, Pop, Peek, Len. -/
import Derived.Test.YtobeppajomhfjaaHeapO
import Derived.WalkKit
import Derived.IntWalk
import Derived.Lib.Hide
import Derived.WalkSpells
import Derived.WalkLawsBesides
import Derived.OwnWalk
import Derived.BigRegion
import Derived.Deep.LoopGhost
import Derived.Deep.RegionHeld3
import Derived.Deep.QuietTactic
import Derived.BigQuiet
import Derived.Laws.CopyOwn
import Derived.Laws.MakeOwn
import Derived.Laws.OwnMore
import Derived.Laws.AppendOwnNone
namespace Go.Proofs.Ytobeppajomhfjaa
open Go.RowKit
set_option linter.unusedVariables false
set_option linter.unusedSimpArgs false
/-- a heap of entries: its slice, in a block of its own -/
def HpA (B : Nat) (w : World) (g : Nat) (v : Value) (L : List Ent) : Prop := Blk w g 55 #[v] ∧ B ≤ g ∧ v.ownBlock ≠ some g ∧ w.ownsRow B 24 3 v L.length (rowM 3 (zE L) L.length) ∧ (∀ y, y ∈ L → WfE y) ∧ HeapO L
def hpS (g : Nat) (v : Value) : Nat → Prop := fun i => i = g ∨ v.ownBlock = some i
/-- what becomes of it lies where it lay, or in new memory -/
def newV (w : World) (v v' : Value) : Prop := ∀ i, v'.ownBlock = some i → v.ownBlock = some i ∨ w.heap.size ≤ i
theorem newV.refl (w : World) (v : Value) : newV w v v := fun i h => Or.inl h
theorem newV.trans {w w1 : World} {v v1 v2 : Value} (h : newV w v v1) (k : newV w1 v1 v2) (hs : w.heap.size ≤ w1.heap.size) : newV w v v2 := fun i hi => (k i hi).elim (fun q => h i q) (fun q => Or.inr (Nat.le_trans hs q))
theorem fr_hp {w w1 w2 : World} {g : Nat} {v v1 : Value} (h : Fr (hpS g v) w w1) (k : Fr (hpS g v1) w1 w2) (hn : newV w v v1) : Fr (hpS g v) w w2 :=
  h.trans k (fun i hi q => q.elim (fun e => Or.inl e) (fun e => (hn i e).elim (fun q => Or.inr q) (fun q => absurd hi (by omega))))
theorem ownM_fr {S : Nat → Prop} {w w' : World} {B : Nat} {e : TypeId} {size n : Nat} {v : Value} {xs : List Value} (h : w.ownsRow B e size v n xs) (hf : Fr S w w') (hv : ∀ i, v.ownBlock = some i → ¬ S i) : w'.ownsRow B e size v n xs := by
  have hlt := h.lt
  refine ⟨h.1, ?_⟩
  rcases h.2 with hn | ⟨g, cap, cur, rfl, hb, hg, rest⟩
  · exact .inl hn
  · exact .inr ⟨g, cap, cur, rfl, hb, (hf.block g (hlt g rfl).2 (hv g rfl)).trans hg, rest⟩
theorem HpA.fr {S : Nat → Prop} {B g : Nat} {w w' : World} {v : Value} {L : List Ent} (h : HpA B w g v L) (hf : Fr S w w') (hg : ¬ S g) (hv : ∀ i, v.ownBlock = some i → ¬ S i) : HpA B w' g v L := by
  obtain ⟨h1, h2, h3, h4, h5, h6⟩ := h
  exact ⟨h1.fr hf hg, h2, h3, ownM_fr h4 hf hv, h5, h6⟩
set_option maxRecDepth 100000 in
set_option maxHeartbeats 20000000 in
theorem push_any (B g : Nat) (v : Value) (x : Ent) (L : List Ent) (w : World) (h : HpA B w g v L) (hx : WfE x) (hl : L.length ≤ 1000) :
    Calls Try.prog 26 #[.pointer (some ⟨g, 0, none⟩), aE x] w fun e w' => e = .returned (.tuple #[]) ∧ ∃ v' M, M.Perm (x :: L) ∧ HpA B w' g v' M ∧ Fr (hpS g v) w w' ∧ newV w v v' := by
  obtain ⟨hb, hg, hne, ho, hw, hh⟩ := h
  obtain ⟨a, d, f⟩ := x
  obtain ⟨n, hn⟩ : ∃ n, L.length = n := ⟨_, rfl⟩
  have HN := Lib.hid hn
  rw [hn] at ho hl
  obtain ⟨A, c, hv⟩ := ownM_slice ho
  have HB := Lib.hid hb; have HO := Lib.hid ho; have HW := Lib.hid hw; have HH := Lib.hid hh; have HX := Lib.hid hx; have HNE := Lib.hid hne; have HBG := Lib.hid hg
  have HV := Lib.hid hv
  have hgl := hb.lt
  have hvw : v.ownBlock ≠ some w.heap.size := fun e => by have := (ho.lt _ e).2; omega
  unfold aE
  dsimp only
  clear hb ho hw hh hx hn hne hg hv
  go_enter Try.func26, Try.ntmps26
  go_wp2_with fail
  have BX := Blk.new w #[.int .i64 a, .int .i64 d, .int .i64 f] 24
  have BG := HB.out.alloc (.cells #[.int .i64 a, .int .i64 d, .int .i64 f] 24)
  have BE : Below w.heap.size w (w.alloc (.cells #[.int .i64 a, .int .i64 d, .int .i64 f] 24)) := (Below.refl w.heap.size w).alloc (Nat.le_refl _) _
  obtain ⟨V0, hV0⟩ : ∃ V, (w.alloc (.cells #[.int .i64 a, .int .i64 d, .int .i64 f] 24)) = V := ⟨_, rfl⟩
  rw [hV0] at BX BG BE ⊢
  have HX0 := Lib.hid BX; have HG0 := Lib.hid BG; have EE := Lib.hid BE
  clear BX BG BE hV0
  have hne0 : g ≠ w.heap.size := by omega
  have kG00 : V0.cell? ⟨g, 0, none⟩ = some (v) := HG0.out.cell 0
  have kX00 : V0.cell? ⟨w.heap.size, 0, none⟩ = some (.int .i64 a) := HX0.out.cell 0
  have kX01 : V0.cell? ⟨w.heap.size, 1, none⟩ = some (.int .i64 d) := HX0.out.cell 1
  have kX02 : V0.cell? ⟨w.heap.size, 2, none⟩ = some (.int .i64 f) := HX0.out.cell 2
  go_wp2_with fail
  have sK : ∀ X, Blk X (w.heap.size) 24 #[.int .i64 a, .int .i64 d, .int .i64 f] → (fun X => X.cell? ⟨w.heap.size, 0, none⟩ = some (.int .i64 a) ∧ X.cell? ⟨w.heap.size, 1, none⟩ = some (.int .i64 d) ∧ X.cell? ⟨w.heap.size, 2, none⟩ = some (.int .i64 f)) X := fun X hX0 => ⟨hX0.cell 0, hX0.cell 1, hX0.cell 2⟩
  have LG00 := Lib.hid (HG0.out.drew)
  have LX00 := Lib.hid (HX0.out.drew)
  have E0 := Lib.hid (EE.out.drew)
  clear kG00 kX00 kX01 kX02
  refine wp_region_held_drew (S := (fun X => X.cell? ⟨w.heap.size, 0, none⟩ = some (.int .i64 a) ∧ X.cell? ⟨w.heap.size, 1, none⟩ = some (.int .i64 d) ∧ X.cell? ⟨w.heap.size, 2, none⟩ = some (.int .i64 f))) (by kernel_rfl) (sK _ LX00.out) (fun hHeld => ?_)
  clear hHeld
  refine wpAnyH_take (i := 0) (v := ?_) rfl (by kernel_rfl) (by kernel_rfl) (by kernel_rfl) (fun _ _ _ h => h) (Or.inl ⟨by rfl, ?_⟩) (sK _ LX00.out) ?_
  rotate_left
  · (intro wS hSw; (try dsimp only at hSw); go_simp; try with_reducible rfl)
  simp only [Act.put, List.getElem_toArray, List.getElem_cons_zero, List.getElem_cons_succ, List.setIfInBounds_toArray, List.set_cons_zero, List.set_cons_succ]
  refine wpAnyH_take (i := 1) (v := ?_) rfl (by kernel_rfl) (by kernel_rfl) (by kernel_rfl) (fun _ _ _ h => h) (Or.inl ⟨by rfl, ?_⟩) (sK _ LX00.out) ?_
  rotate_left
  · (intro wS hSw; (try dsimp only at hSw); go_simp; try with_reducible rfl)
  simp only [Act.put, List.getElem_toArray, List.getElem_cons_zero, List.getElem_cons_succ, List.setIfInBounds_toArray, List.set_cons_zero, List.set_cons_succ]
  refine wpAnyH_take (i := 2) (v := ?_) rfl (by kernel_rfl) (by kernel_rfl) (by kernel_rfl) (fun _ _ _ h => h) (Or.inl ⟨by rfl, ?_⟩) (sK _ LX00.out) ?_
  rotate_left
  · (intro wS hSw; (try dsimp only at hSw); go_simp; try with_reducible rfl)
  simp only [Act.put, List.getElem_toArray, List.getElem_cons_zero, List.getElem_cons_succ, List.setIfInBounds_toArray, List.set_cons_zero, List.set_cons_succ]
  refine wpAnyH_take (i := 3) (v := ?_) rfl (by kernel_rfl) (by kernel_rfl) (by kernel_rfl) (fun _ _ _ h => h) (Or.inl ⟨by rfl, ?_⟩) (sK _ LX00.out) ?_
  rotate_left
  · (intro wS hSw; (try dsimp only at hSw); go_simp; try with_reducible rfl)
  simp only [Act.put, List.getElem_toArray, List.getElem_cons_zero, List.getElem_cons_succ, List.setIfInBounds_toArray, List.set_cons_zero, List.set_cons_succ]
  refine wpAnyH_take (i := 5) (v := ?_) rfl (by kernel_rfl) (by kernel_rfl) (by kernel_rfl) (fun _ _ _ h => h) (Or.inl ⟨by rfl, ?_⟩) (sK _ LX00.out) ?_
  rotate_left
  · (intro wS hSw; (try dsimp only at hSw); go_simp; try with_reducible rfl)
  simp only [Act.put, List.getElem_toArray, List.getElem_cons_zero, List.getElem_cons_succ, List.setIfInBounds_toArray, List.set_cons_zero, List.set_cons_succ]
  refine wpAnyH_ready (rs := [4, 6]) (by kernel_rfl) (by simp) ?_
  refine AllReadyH.cons rfl (fun K hK => ?_) (AllReadyH.cons rfl (fun K hK => ?_) AllReadyH.nil)
  · have g0 : V0.cell? ⟨g, 0, none⟩ = some v := HG0.out.cell 0
    have g1 : V0.drew.cell? ⟨g, 0, none⟩ = some v := g0
    go_simp
    clear g0 g1
    refine hK.out _ _ (sK _ LX00.out) (fun hHeld => ?_)
    clear hK K hHeld
    try simp only [Act.put, List.getElem_toArray, List.getElem_cons_zero, List.getElem_cons_succ, List.setIfInBounds_toArray, List.set_cons_zero, List.set_cons_succ]
    refine wpAnyH_ready (rs := [6]) (by kernel_rfl) (by simp) ?_
    refine AllReadyH.cons rfl (fun K hK => ?_) AllReadyH.nil
    go_simp
    have LG01 : Blk ((V0.alloc (.cells #[.int .i64 a, .int .i64 d, .int .i64 f] 24)).drew) (g) 55 #[v] := Blk.alloc (w := V0) HG0.out (.cells #[.int .i64 a, .int .i64 d, .int .i64 f] 24)
    have LX01 : Blk ((V0.alloc (.cells #[.int .i64 a, .int .i64 d, .int .i64 f] 24)).drew) (w.heap.size) 24 #[.int .i64 a, .int .i64 d, .int .i64 f] := Blk.alloc (w := V0) HX0.out (.cells #[.int .i64 a, .int .i64 d, .int .i64 f] 24)
    have LN1 : Blk ((V0.alloc (.cells #[.int .i64 a, .int .i64 d, .int .i64 f] 24)).drew) V0.heap.size 24 #[.int .i64 a, .int .i64 d, .int .i64 f] := Blk.new V0 _ _
    have E1 : Below w.heap.size w ((V0.alloc (.cells #[.int .i64 a, .int .i64 d, .int .i64 f] 24)).drew) := (EE.out.alloc EE.out.size (.cells #[.int .i64 a, .int .i64 d, .int .i64 f] 24)).drew
    obtain ⟨r1, hr1⟩ : ∃ V, (V0.alloc (.cells #[.int .i64 a, .int .i64 d, .int .i64 f] 24)).drew = V := ⟨_, rfl⟩
    obtain ⟨ge, hg1⟩ : ∃ g, V0.heap.size = g := ⟨_, rfl⟩
    try rw [hr1]
    try rw [hg1]
    simp only [hr1, hg1] at LG01 LX01 LN1 E1
    try simp only [hr1, hg1]
    clear hr1 hg1
    replace LG01 := Lib.hid LG01
    replace LX01 := Lib.hid LX01
    replace LN1 := Lib.hid LN1
    replace E1 := Lib.hid E1
    refine hK.out _ _ (sK _ LX01.out) (fun hHeld => ?_)
    clear hK K hHeld
    try simp only [Act.put, List.getElem_toArray, List.getElem_cons_zero, List.getElem_cons_succ, List.setIfInBounds_toArray, List.set_cons_zero, List.set_cons_succ]
    refine wpAnyH_ready (rs := [7]) (by kernel_rfl) (by simp) ?_
    refine AllReadyH.cons rfl (fun K hK => ?_) AllReadyH.nil
    obtain ⟨i0, hi, hz0, hz1, hz2⟩ := info_parts enInfo
    have hr1 := E1.out.size
    have hgr := LG01.out.lt
    obtain ⟨v', w1, hr, hown, hgrow, _, hblk⟩ := run_append_own_at (P := Try.prog) r1 B 22 22 24 i0 (.agg #[.int .i64 0, .int .i64 0, .int .i64 0]) 3 24 Try.underlying22 hi hz0 hz1 hz2 rfl (by decide) v n _ (ownM_below HO.out E1.out) ⟨ge, 0, none⟩ 1 1 [.int .i64 a, .int .i64 d, .int .i64 f] rfl (newsM LN1.out) (by intro u hu; simp at hu; rcases hu with rfl | rfl | rfl <;> rfl) (by unfold maxLen; omega) (by omega) (by have := HBG.out; omega)
    rw [HV.out] at hr
    rw [HV.out]
    obtain ⟨r, c', rfl, hrB, hrc⟩ := ownM_head hown (by omega)
    rw [if_pos (by rfl)]
    unfold Oper.wp
    simp [Act.eval, execOp, resolve, invoke, builtin, hr, Result.andThen]
    go_simp
    have HG2 : Hid (Blk w1 g 55 #[v]) := Lib.hid ((hgrow.block g hgr (fun e => HNE.out e.symm)).trans LG01.out)
    have HX2 : Hid (Blk w1 w.heap.size 24 #[.int .i64 a, .int .i64 d, .int .i64 f]) := Lib.hid ((hgrow.block _ LX01.out.lt (fun e => hvw e.symm)).trans LX01.out)
    have HOW := Lib.hid hown
    have FF : Hid (Fr (hpS g v) w w1) := Lib.hid (((Fr.refl (hpS g v) w).below E1.out).grown hgrow (fun k e => Or.inr (Or.inr e)))
    have HN2 : Hid (newV w v (.slice (some ⟨r, 0, none⟩) (n + 1) c')) := Lib.hid (fun i e => hblk.elim (fun q => Or.inl (q ▸ e)) (fun q => Or.inr (by rw [q] at e; cases e; exact E1.out.size)))
    clear hi hz0 hz1 hz2 hr hown hgrow hblk
    refine hK.out _ _ (sK _ HX2.out) (fun hHeld => ?_)
    clear hK K hHeld
    try simp only [Act.put, List.getElem_toArray, List.getElem_cons_zero, List.getElem_cons_succ, List.setIfInBounds_toArray, List.set_cons_zero, List.set_cons_succ]
    refine wpAnyH_take (i := 8) (v := ?_) rfl (by kernel_rfl) (by kernel_rfl) (by kernel_rfl) (fun _ _ _ h => h) (Or.inl ⟨by rfl, ?_⟩) (sK _ HX2.out) ?_
    rotate_left
    · (intro wS hSw; (try dsimp only at hSw); go_simp; try with_reducible rfl)
    simp only [Act.put, List.getElem_toArray, List.getElem_cons_zero, List.getElem_cons_succ, List.setIfInBounds_toArray, List.set_cons_zero, List.set_cons_succ]
    refine wpAnyH_take (i := 9) (v := ?_) rfl (by kernel_rfl) (by kernel_rfl) (by kernel_rfl) (fun _ _ _ h => h) (Or.inl ⟨by rfl, ?_⟩) (sK _ HX2.out) ?_
    rotate_left
    · (intro wS hSw; (try dsimp only at hSw); go_simp; try with_reducible rfl)
    simp only [Act.put, List.getElem_toArray, List.getElem_cons_zero, List.getElem_cons_succ, List.setIfInBounds_toArray, List.set_cons_zero, List.set_cons_succ]
    refine wpAnyH_ready (rs := [10]) (by kernel_rfl) (by simp) ?_
    refine AllReadyH.cons rfl (fun K hK => ?_) AllReadyH.nil
    have g0 : w1.cell? ⟨g, 0, none⟩ = some v := HG2.out.cell 0
    have g1 : w1.frozen? ⟨g, 0, none⟩ = false := HG2.out.frozen 0
    go_simp
    clear g0 g1
    have hGF : Blk (w1.setCell ⟨g, 0, none⟩ (.slice (some ⟨r, 0, none⟩) (n + 1) c')) g 55 #[(.slice (some ⟨r, 0, none⟩) (n + 1) c')] := HG2.out.set 0 (.slice (some ⟨r, 0, none⟩) (n + 1) c')
    have hXF : Blk (w1.setCell ⟨g, 0, none⟩ (.slice (some ⟨r, 0, none⟩) (n + 1) c')) w.heap.size 24 #[.int .i64 a, .int .i64 d, .int .i64 f] := HX2.out.far (p := ⟨g, 0, none⟩) (Ne.symm hne0) _
    have hFF : Fr (hpS g v) w (w1.setCell ⟨g, 0, none⟩ (.slice (some ⟨r, 0, none⟩) (n + 1) c')) := FF.out.setCell (Or.inr (Or.inl rfl)) _
    have hne' : (Value.slice (some ⟨r, 0, none⟩) (n + 1) c').ownBlock ≠ some g := fun e => (HN2.out g e).elim HNE.out (fun q => by omega)
    have hOF : (w1.setCell ⟨g, 0, none⟩ (.slice (some ⟨r, 0, none⟩) (n + 1) c')).ownsRow B 24 3 (.slice (some ⟨r, 0, none⟩) (n + 1) c') (n + 1) (rowM 3 (zE L) n ++ [.int .i64 a, .int .i64 d, .int .i64 f]) := HOW.out.kept (grownBy_setCell' w1 g _) (Or.inr hne')
    obtain ⟨w2, hw2⟩ : ∃ V, w1.setCell ⟨g, 0, none⟩ (.slice (some ⟨r, 0, none⟩) (n + 1) c') = V := ⟨_, rfl⟩
    rw [hw2] at hGF hXF hFF hOF ⊢
    clear hw2
    have HG3 := Lib.hid hGF; have HX3 := Lib.hid hXF; have F3 := Lib.hid hFF; have HO3 := Lib.hid hOF; have HNE3 := Lib.hid hne'
    clear hGF hXF hFF hOF hne'
    refine hK.out _ _ (sK _ HX3.out) (fun hHeld => ?_)
    clear hK K hHeld
    try simp only [Act.put, List.getElem_toArray, List.getElem_cons_zero, List.getElem_cons_succ, List.setIfInBounds_toArray, List.set_cons_zero, List.set_cons_succ]
    refine wpAnyH_done (by kernel_rfl) ?_ _
    have HR : Hid (w2.ownsRow B 24 3 (.slice (some ⟨r, 0, none⟩) (n + 1) c') (n + 1) (rowM 3 (zE (L ++ [(a, d, f)])) (n + 1))) := Lib.hid (by
      have := HO3.out
      rw [← HN.out, rowE_push L (a, d, f), List.length_append] at this
      rw [← HN.out]
      exact this)
    have hgr : g ≠ r := fun e => HNE3.out (by rw [e]; rfl)
    clear HO3 hrB hrc
    have KR := Lib.hid (rise_any B g r c' n (n + 1) (L ++ [(a, d, f)]) w2 HG3.out hgr (by simp [HN.out]) HR.out (by rw [← HN.out]; exact rise_init HH.out) (by omega) (by omega))
    have g0 : w2.cell? ⟨g, 0, none⟩ = some (.slice (some ⟨r, 0, none⟩) (n + 1) c') := HG3.out.cell 0
    have hwn : IntKind.i64.wrap ((n : Int) + 1 - 1) = (n : Int) := by rw [IntWalk.i64_in _ (by omega)]; omega
    go_wp2_with fail
    refine KR.out.mono ?_
    rintro e w3 ⟨rfl, M, hp, hh, ho, hf⟩
    have P1 := Lib.hid hp; have P2 := Lib.hid hh; have P3 := Lib.hid ho; have P4 := Lib.hid hf
    clear hp hh ho hf g0
    go_wp2_with fail
    go_end0
    have hl1 : M.length = n + 1 := by have := P1.out.length_eq; simp [HN.out] at this; exact this
    refine ⟨rfl, _, M, P1.out.trans List.perm_append_comm, ⟨HG3.out.fr P4.out hgr, HBG.out, fun e => hgr (by cases e; rfl), by rw [hl1]; exact P3.out, fun y hy => ?_, P2.out⟩, F3.out.trans P4.out (fun i hi q => ?_), HN2.out⟩
    · rcases List.mem_append.1 (P1.out.mem_iff.1 hy) with q | q
      · exact HW.out y q
      · rw [List.mem_singleton.1 q]; exact HX.out
    · subst q
      exact (HN2.out i rfl).elim (fun q => Or.inr q) (fun q => absurd hi (by omega))
  · go_simp
    have LG01 : Blk ((V0.alloc (.cells #[.int .i64 a, .int .i64 d, .int .i64 f] 24)).drew) (g) 55 #[v] := Blk.alloc (w := V0) HG0.out (.cells #[.int .i64 a, .int .i64 d, .int .i64 f] 24)
    have LX01 : Blk ((V0.alloc (.cells #[.int .i64 a, .int .i64 d, .int .i64 f] 24)).drew) (w.heap.size) 24 #[.int .i64 a, .int .i64 d, .int .i64 f] := Blk.alloc (w := V0) HX0.out (.cells #[.int .i64 a, .int .i64 d, .int .i64 f] 24)
    have LN1 : Blk ((V0.alloc (.cells #[.int .i64 a, .int .i64 d, .int .i64 f] 24)).drew) V0.heap.size 24 #[.int .i64 a, .int .i64 d, .int .i64 f] := Blk.new V0 _ _
    have E1 : Below w.heap.size w ((V0.alloc (.cells #[.int .i64 a, .int .i64 d, .int .i64 f] 24)).drew) := (EE.out.alloc EE.out.size (.cells #[.int .i64 a, .int .i64 d, .int .i64 f] 24)).drew
    obtain ⟨r1, hr1⟩ : ∃ V, (V0.alloc (.cells #[.int .i64 a, .int .i64 d, .int .i64 f] 24)).drew = V := ⟨_, rfl⟩
    obtain ⟨ge, hg1⟩ : ∃ g, V0.heap.size = g := ⟨_, rfl⟩
    try rw [hr1]
    try rw [hg1]
    simp only [hr1, hg1] at LG01 LX01 LN1 E1
    try simp only [hr1, hg1]
    clear hr1 hg1
    replace LG01 := Lib.hid LG01
    replace LX01 := Lib.hid LX01
    replace LN1 := Lib.hid LN1
    replace E1 := Lib.hid E1
    refine hK.out _ _ (sK _ LX01.out) (fun hHeld => ?_)
    clear hK K hHeld
    try simp only [Act.put, List.getElem_toArray, List.getElem_cons_zero, List.getElem_cons_succ, List.setIfInBounds_toArray, List.set_cons_zero, List.set_cons_succ]
    refine wpAnyH_ready (rs := [4]) (by kernel_rfl) (by simp) ?_
    refine AllReadyH.cons rfl (fun K hK => ?_) AllReadyH.nil
    have g0 : r1.cell? ⟨g, 0, none⟩ = some v := LG01.out.cell 0
    have g1 : r1.drew.cell? ⟨g, 0, none⟩ = some v := g0
    go_simp
    clear g0 g1
    refine hK.out _ _ (sK _ LX01.out) (fun hHeld => ?_)
    clear hK K hHeld
    try simp only [Act.put, List.getElem_toArray, List.getElem_cons_zero, List.getElem_cons_succ, List.setIfInBounds_toArray, List.set_cons_zero, List.set_cons_succ]
    refine wpAnyH_ready (rs := [7]) (by kernel_rfl) (by simp) ?_
    refine AllReadyH.cons rfl (fun K hK => ?_) AllReadyH.nil
    obtain ⟨i0, hi, hz0, hz1, hz2⟩ := info_parts enInfo
    have hr1 := E1.out.size
    have hgr := LG01.out.lt
    obtain ⟨v', w1, hr, hown, hgrow, _, hblk⟩ := run_append_own_at (P := Try.prog) r1 B 22 22 24 i0 (.agg #[.int .i64 0, .int .i64 0, .int .i64 0]) 3 24 Try.underlying22 hi hz0 hz1 hz2 rfl (by decide) v n _ (ownM_below HO.out E1.out) ⟨ge, 0, none⟩ 1 1 [.int .i64 a, .int .i64 d, .int .i64 f] rfl (newsM LN1.out) (by intro u hu; simp at hu; rcases hu with rfl | rfl | rfl <;> rfl) (by unfold maxLen; omega) (by omega) (by have := HBG.out; omega)
    rw [HV.out] at hr
    rw [HV.out]
    obtain ⟨r, c', rfl, hrB, hrc⟩ := ownM_head hown (by omega)
    rw [if_pos (by rfl)]
    unfold Oper.wp
    simp [Act.eval, execOp, resolve, invoke, builtin, hr, Result.andThen]
    go_simp
    have HG2 : Hid (Blk w1 g 55 #[v]) := Lib.hid ((hgrow.block g hgr (fun e => HNE.out e.symm)).trans LG01.out)
    have HX2 : Hid (Blk w1 w.heap.size 24 #[.int .i64 a, .int .i64 d, .int .i64 f]) := Lib.hid ((hgrow.block _ LX01.out.lt (fun e => hvw e.symm)).trans LX01.out)
    have HOW := Lib.hid hown
    have FF : Hid (Fr (hpS g v) w w1) := Lib.hid (((Fr.refl (hpS g v) w).below E1.out).grown hgrow (fun k e => Or.inr (Or.inr e)))
    have HN2 : Hid (newV w v (.slice (some ⟨r, 0, none⟩) (n + 1) c')) := Lib.hid (fun i e => hblk.elim (fun q => Or.inl (q ▸ e)) (fun q => Or.inr (by rw [q] at e; cases e; exact E1.out.size)))
    clear hi hz0 hz1 hz2 hr hown hgrow hblk
    refine hK.out _ _ (sK _ HX2.out) (fun hHeld => ?_)
    clear hK K hHeld
    try simp only [Act.put, List.getElem_toArray, List.getElem_cons_zero, List.getElem_cons_succ, List.setIfInBounds_toArray, List.set_cons_zero, List.set_cons_succ]
    refine wpAnyH_take (i := 8) (v := ?_) rfl (by kernel_rfl) (by kernel_rfl) (by kernel_rfl) (fun _ _ _ h => h) (Or.inl ⟨by rfl, ?_⟩) (sK _ HX2.out) ?_
    rotate_left
    · (intro wS hSw; (try dsimp only at hSw); go_simp; try with_reducible rfl)
    simp only [Act.put, List.getElem_toArray, List.getElem_cons_zero, List.getElem_cons_succ, List.setIfInBounds_toArray, List.set_cons_zero, List.set_cons_succ]
    refine wpAnyH_take (i := 9) (v := ?_) rfl (by kernel_rfl) (by kernel_rfl) (by kernel_rfl) (fun _ _ _ h => h) (Or.inl ⟨by rfl, ?_⟩) (sK _ HX2.out) ?_
    rotate_left
    · (intro wS hSw; (try dsimp only at hSw); go_simp; try with_reducible rfl)
    simp only [Act.put, List.getElem_toArray, List.getElem_cons_zero, List.getElem_cons_succ, List.setIfInBounds_toArray, List.set_cons_zero, List.set_cons_succ]
    refine wpAnyH_ready (rs := [10]) (by kernel_rfl) (by simp) ?_
    refine AllReadyH.cons rfl (fun K hK => ?_) AllReadyH.nil
    have g0 : w1.cell? ⟨g, 0, none⟩ = some v := HG2.out.cell 0
    have g1 : w1.frozen? ⟨g, 0, none⟩ = false := HG2.out.frozen 0
    go_simp
    clear g0 g1
    have hGF : Blk (w1.setCell ⟨g, 0, none⟩ (.slice (some ⟨r, 0, none⟩) (n + 1) c')) g 55 #[(.slice (some ⟨r, 0, none⟩) (n + 1) c')] := HG2.out.set 0 (.slice (some ⟨r, 0, none⟩) (n + 1) c')
    have hXF : Blk (w1.setCell ⟨g, 0, none⟩ (.slice (some ⟨r, 0, none⟩) (n + 1) c')) w.heap.size 24 #[.int .i64 a, .int .i64 d, .int .i64 f] := HX2.out.far (p := ⟨g, 0, none⟩) (Ne.symm hne0) _
    have hFF : Fr (hpS g v) w (w1.setCell ⟨g, 0, none⟩ (.slice (some ⟨r, 0, none⟩) (n + 1) c')) := FF.out.setCell (Or.inr (Or.inl rfl)) _
    have hne' : (Value.slice (some ⟨r, 0, none⟩) (n + 1) c').ownBlock ≠ some g := fun e => (HN2.out g e).elim HNE.out (fun q => by omega)
    have hOF : (w1.setCell ⟨g, 0, none⟩ (.slice (some ⟨r, 0, none⟩) (n + 1) c')).ownsRow B 24 3 (.slice (some ⟨r, 0, none⟩) (n + 1) c') (n + 1) (rowM 3 (zE L) n ++ [.int .i64 a, .int .i64 d, .int .i64 f]) := HOW.out.kept (grownBy_setCell' w1 g _) (Or.inr hne')
    obtain ⟨w2, hw2⟩ : ∃ V, w1.setCell ⟨g, 0, none⟩ (.slice (some ⟨r, 0, none⟩) (n + 1) c') = V := ⟨_, rfl⟩
    rw [hw2] at hGF hXF hFF hOF ⊢
    clear hw2
    have HG3 := Lib.hid hGF; have HX3 := Lib.hid hXF; have F3 := Lib.hid hFF; have HO3 := Lib.hid hOF; have HNE3 := Lib.hid hne'
    clear hGF hXF hFF hOF hne'
    refine hK.out _ _ (sK _ HX3.out) (fun hHeld => ?_)
    clear hK K hHeld
    try simp only [Act.put, List.getElem_toArray, List.getElem_cons_zero, List.getElem_cons_succ, List.setIfInBounds_toArray, List.set_cons_zero, List.set_cons_succ]
    refine wpAnyH_done (by kernel_rfl) ?_ _
    have HR : Hid (w2.ownsRow B 24 3 (.slice (some ⟨r, 0, none⟩) (n + 1) c') (n + 1) (rowM 3 (zE (L ++ [(a, d, f)])) (n + 1))) := Lib.hid (by
      have := HO3.out
      rw [← HN.out, rowE_push L (a, d, f), List.length_append] at this
      rw [← HN.out]
      exact this)
    have hgr : g ≠ r := fun e => HNE3.out (by rw [e]; rfl)
    clear HO3 hrB hrc
    have KR := Lib.hid (rise_any B g r c' n (n + 1) (L ++ [(a, d, f)]) w2 HG3.out hgr (by simp [HN.out]) HR.out (by rw [← HN.out]; exact rise_init HH.out) (by omega) (by omega))
    have g0 : w2.cell? ⟨g, 0, none⟩ = some (.slice (some ⟨r, 0, none⟩) (n + 1) c') := HG3.out.cell 0
    have hwn : IntKind.i64.wrap ((n : Int) + 1 - 1) = (n : Int) := by rw [IntWalk.i64_in _ (by omega)]; omega
    go_wp2_with fail
    refine KR.out.mono ?_
    rintro e w3 ⟨rfl, M, hp, hh, ho, hf⟩
    have P1 := Lib.hid hp; have P2 := Lib.hid hh; have P3 := Lib.hid ho; have P4 := Lib.hid hf
    clear hp hh ho hf g0
    go_wp2_with fail
    go_end0
    have hl1 : M.length = n + 1 := by have := P1.out.length_eq; simp [HN.out] at this; exact this
    refine ⟨rfl, _, M, P1.out.trans List.perm_append_comm, ⟨HG3.out.fr P4.out hgr, HBG.out, fun e => hgr (by cases e; rfl), by rw [hl1]; exact P3.out, fun y hy => ?_, P2.out⟩, F3.out.trans P4.out (fun i hi q => ?_), HN2.out⟩
    · rcases List.mem_append.1 (P1.out.mem_iff.1 hy) with q | q
      · exact HW.out y q
      · rw [List.mem_singleton.1 q]; exact HX.out
    · subst q
      exact (HN2.out i rfl).elim (fun q => Or.inr q) (fun q => absurd hi (by omega))
end Go.Proofs.Ytobeppajomhfjaa
