/- Parking: where cars wait at best. -/
import Derived.Test.YtloplambpfjioaaRows
import Derived.Test.YtloplambpfjioaaRowKit
import Derived.Test.YtloplambpfjioaaRowS
import Derived.Test.YtloplambpfjioaaRowZ
import Derived.Test.YtloplambpfjioaaSlicesEq
import Derived.Test.YtloplambpfjioaaSlicesEqM
import Derived.Test.YtloplambpfjioaaRowL
import Derived.Test.YtloplambpfjioaaRowM
import Derived.Test.YtloplambpfjioaaMakeI
import Derived.Test.YtloplambpfjioaaBlocks
import Derived.Test.YtloplambpfjioaaParkG
import Derived.Test.YtloplambpfjioaaParkPlan
import Derived.Test.YtloplambpfjioaaRowM
import Derived.Test.YtloplambpfjioaaPlaceA
import Derived.Test.YtloplambpfjioaaShelf
import Derived.WalkKit
import Derived.IntWalk
import Derived.Lib.Hide
import Derived.WalkSpells
import Derived.WalkLawsBesides
import Derived.Laws.CopyOwn
import Derived.Laws.MakeOwn
import Derived.Laws.OwnMore
import Derived.OwnWalk
import Derived.Deep.QuietTactic
import Derived.BigQuiet
import Derived.Deep.RegionHeld3
import Derived.Deep.LoopGhost
import Derived.BigRegion
import Derived.Deep.AppendLies
import Derived.Maps.AppendAt
import Derived.Below
namespace Go.Proofs.Ytloplambpfjioaa
open Go.RowKit
set_option linter.unusedSimpArgs false
set_option linter.unusedVariables false
theorem sgs_bd {zs : List Int} {n : Nat} {A : Nat → Nat → Nat → Int} (hq : RgP zs n) (h : Sgs (zat zs) n A) {b e : Nat} (hb : b < e) (he : e ≤ n) : 0 ≤ A b e 2 ∧ A b e 2 ≤ 17179869184 := by
  refine ⟨sgs_nn (fun f hf => (hq.2.2 f hf).1) h hb he, ?_⟩
  obtain ⟨_, m, h1, _, h3⟩ := h.big b e hb he
  have := sgl_bd hq m b (by have := h1.2.1; omega) (e - b) (by omega)
  have h128 := hq.2.1
  rw [h3]
  omega
theorem rwP_bd {zs : List Int} {n : Nat} {A : Nat → Nat → Nat → Int} (hq : RgP zs n) (h : Sgs (zat zs) n A) (j b : Nat) (hb : b ≤ n) : 0 ≤ rwP A j b 2 ∧ rwP A j b 2 ≤ 17179869184 := by
  refine ⟨rwP_nn (fun f hf => (hq.2.2 f hf).1) h j b hb, ?_⟩
  have := rwP_le (A := A) j b
  by_cases h0 : b = 0
  · subst h0; rw [h.low 2 (by omega)] at this; omega
  · have := (sgs_bd hq h (b := 0) (e := b) (by omega) hb).2; omega
theorem nl_nn {S : List Int} (hS : S ≠ []) (f : Int) : 0 ≤ nl S f := by
  obtain ⟨⟨s, _, e⟩, _⟩ := nl_is f S hS
  rw [e]; exact dst_nn _ _
/-- floors that cost as little as any do, of at most k -/
def OptP (zs : List Int) (n : Nat) (k : Int) (fs : List Int) (v : Int) : Prop := fs ≠ [] ∧ (fs.length : Int) ≤ k ∧ fs.Pairwise (· < ·) ∧ (∀ s, s ∈ fs → 0 ≤ s ∧ s < n) ∧ v = sm (fun f => zat zs f * nl fs f) 0 n ∧ 0 ≤ v ∧ ∀ S : List Int, S ≠ [] → (S.length : Int) ≤ k → v ≤ sm (fun f => zat zs f * nl S f) 0 n
theorem best_opt {zs : List Int} {n : Nat} {A : Nat → Nat → Nat → Int} (hq : RgP zs n) (h : Sgs (zat zs) n A) (j : Nat) (k : Int) (hk : ((j + 1 : Nat) : Int) ≤ k) (hstop : k ≤ ((j + 1 : Nat) : Int) ∨ rwP A j n 2 ≤ 0) : OptP zs n k (chP A j n) (rwP A j n 2) := by
  have hl : ∀ f, f < n → 0 ≤ zat zs f := fun f hf => (hq.2.2 f hf).1
  have h0 : 0 < n := hq.1
  have hR := rows_of hl h
  have hP := plans_of h
  have hne : chP A j n ≠ [] := chn_ne j h0
  have hlen : (chP A j n).length ≤ j + 1 := chn_len _ _ j n
  have up : sm (fun f => zat zs f * nl (chP A j n) f) 0 n ≤ rwP A j n 2 := upper hl hP j n (fun f => nl (chP A j n) f) h0 (Nat.le_refl _) (fun f _ => nl_is f _ hne)
  have lo : rwP A j n 2 ≤ sm (fun f => zat zs f * nl (chP A j n) f) 0 n := lower hl hR j n (chP A j n) (fun f => nl (chP A j n) f) (Nat.le_refl _) hne hlen (fun f _ => nl_is f _ hne)
  refine ⟨hne, by omega, chn_rise hP j n (Nat.le_refl _), fun s hs => chn_mem hP j n (Nat.le_refl _) s hs, by omega, rwP_nn hl h j n (Nat.le_refl _), fun S hS hSl => ?_⟩
  rcases hstop with h1 | h1
  · exact lower hl hR j n S (fun f => nl S f) (Nat.le_refl _) hS (by omega) (fun f _ => nl_is f S hS)
  · have : 0 ≤ sm (fun f => zat zs f * nl S f) 0 n := sm_nn (fun f _ hf => Int.mul_nonneg (hl f (by omega)) (nl_nn hS _))
    omega
/-- as many cars as floors: nothing is left -/
theorem best_end {zs : List Int} {n : Nat} {A : Nat → Nat → Nat → Int} (hq : RgP zs n) (h : Sgs (zat zs) n A) (j : Nat) (hj : n ≤ j + 1) : rwP A j n 2 ≤ 0 := enough (fun f hf => (hq.2.2 f hf).1) (rows_of (fun f hf => (hq.2.2 f hf).1) h) hq.1 hj
def BsR (zs : List Int) (n : Nat) (k : Int) (w : World) (e : Ending) (w' : World) : Prop := Below w.heap.size w w' ∧ ((RgP zs n ∧ 1 ≤ k ∧ ∃ P c fs v, e = .returned (.tuple #[.slice P fs.length c, .int .i64 v, .int .i64 0]) ∧ RdI w' .i64 P fs ∧ fs.length ≤ 128 ∧ OptP zs n k fs v) ∨ (¬ (RgP zs n ∧ 1 ≤ k) ∧ e = .returned (.tuple #[.slice none 0 0, .int .i64 0, .int .i64 22])))
set_option maxRecDepth 100000 in
set_option maxHeartbeats 20000000 in
theorem best_any (A : Option Addr) (c n : Nat) (zs : List Int) (k : Int) (w : World) (hn : zs.length = n) (hnc : n ≤ c) (hcm : c ≤ maxLen) (hr : RdI w .i64 A zs) :
    Calls Try.prog 9 #[.slice A n c, .int .i64 k] w (BsR zs n k w) := by
  obtain ⟨i1, gi, gz0, gz1, gz2⟩ := info_parts rwInfo
  have hM : maxLen ≤ 9223372036854775807 := by decide
  have KR := Lib.hid (pright_any A c n zs w hn (by omega) hr)
  have KS := Lib.hid (fun hq => singles_any A c n zs w hn hq hnc hcm hr)
  obtain ⟨R, hR⟩ : ∃ R : Ending → World → Prop, BsR zs n k w = R := ⟨_, rfl⟩
  have NO : (¬ (RgP zs n ∧ 1 ≤ k)) → R (.returned (.tuple #[.slice none 0 0, .int .i64 0, .int .i64 22])) w := fun h => by rw [← hR]; exact ⟨Below.refl _ _, Or.inr ⟨h, rfl⟩⟩
  have HNO := Lib.hid NO
  have HRR := Lib.hid hR
  rw [hR]
  clear hr hR NO hnc hcm hM
  go_enter Try.func9, Try.ntmps9
  go_wp2_with fail
  refine KR.out.mono ?_
  rintro e w1 ⟨b, rfl, hb, rfl⟩
  have HQ := Lib.hid hb
  clear hb KR
  cases b with
  | false =>
    go_wp2_with fail
    refine bodyPost_ret (v := .tuple #[.slice none 0 0, .int .i64 0, .int .i64 22]) (by simp [results, Try.results9, go_sem]) rfl ?_
    exact HNO.out (fun q => by have := HQ.out.2 q.1; cases this)
  | true =>
    have hQ : Hid (RgP zs n) := Lib.hid (HQ.out.1 rfl)
    by_cases hk : k < 1
    · go_wp2_with fail
      refine bodyPost_ret (v := .tuple #[.slice none 0 0, .int .i64 0, .int .i64 22]) (by simp [results, Try.results9, go_sem]) rfl ?_
      exact HNO.out (fun q => by have := q.2; omega)
    have KS1 := Lib.hid (KS.out hQ.out)
    clear KS HNO HQ
    have h0n := hQ.out.1
    have h128 := hQ.out.2.1
    have h0i : (0 : Int) < (n : Int) := by omega
    have HK1 : Hid (1 ≤ k) := Lib.hid (by omega)
    go_wp2_with fail
    refine KS1.out.mono ?_
    rintro e w2 ⟨v, G, Af, rfl, hw, hsg, hb⟩
    obtain ⟨ga, cap, rfl, hcap, _, hcell⟩ := hw.at h0n
    have HW := Lib.hid hw; have HSG := Lib.hid hsg; have E2 := Lib.hid hb
    have ca : w2.cell? ⟨ga, 0, none⟩ = some (.slice (some ⟨G 0, 0, none⟩) (n + 1) (n + 1)) := hcell 0 h0n
    have HR0 : Hid (RwS (w2.alloc (.cells #[.slice (some ⟨G 0, 0, none⟩) (n + 1) (n + 1)] 41)) w2.heap.size n (.slice (some ⟨w2.heap.size, 0, none⟩) 1 1) 1 (fun _ => G 0) (rwP Af)) := Lib.hid ⟨World.ownsRow_lit w2 _ 1 (Nat.le_refl _) (by unfold maxLen; omega) rfl, fun i hi => by
      obtain rfl : i = 0 := by omega
      exact (hw.blk 0 h0n).alloc _⟩
    have E0 : Hid (Below w2.heap.size w2 (w2.alloc (.cells #[.slice (some ⟨G 0, 0, none⟩) (n + 1) (n + 1)] 41))) := Lib.hid ((Below.refl _ _).alloc (Nat.le_refl _) _)
    have HSZ := Lib.hid (show w.heap.size ≤ w2.heap.size from hb.size)
    clear hw hsg hb hcell hcap KS1
    go_wp2_with fail
    go_loopg [8, 9] (n - 1) (fun gh lv rv wr => ∃ (J j : Nat) (G' : Nat → Nat), gh = n - J ∧ J ≤ n ∧ Hid (J = j + 1) ∧ Hid ((J : Int) ≤ k) ∧ lv = .slice (some ⟨G' j, 0, none⟩) (n + 1) (n + 1) ∧ Hid (RwS wr w2.heap.size n rv J G' (rwP Af)) ∧ Hid (Below w2.heap.size w2 wr))
    case atStart => exact ⟨1, 0, fun _ => G 0, rfl, h0n, Lib.hid rfl, Lib.hid (by have := HK1.out; omega), rfl, HR0, E0⟩
    case round =>
      clear HR0 E0 ca
      obtain ⟨J, j, G', rfl, hJn, HJ, HJK, rfl, HRW, EE⟩ := hrel
      rename World => w3
      have hJ0 : 0 < J := by have := HJ.out; omega
      have hjJ : j < J := by have := HJ.out; omega
      obtain ⟨gr, cap', rfl, hcap', hgr, _⟩ := HRW.out.at hJ0
      have HBJ := Lib.hid (HRW.out.blk j hjJ)
      obtain ⟨gl, hgl⟩ : ∃ q, G' j = q := ⟨_, rfl⟩
      rw [hgl] at HBJ ⊢
      have hni : (n : Int) < (n : Int) + 1 := by omega
      have c2 : w3.cell? ⟨gl, n * 3 + 2, none⟩ = some (.int .i64 (rwP Af j n 2)) := blk_q HBJ.out (j := 2) (by omega) (by omega)
      obtain ⟨x, hx⟩ : ∃ x, rwP Af j n 2 = x := ⟨_, rfl⟩
      rw [hx] at c2
      have HX := Lib.hid hx
      clear hx
      have DD : ((J : Int) < k ∧ 0 < x) ∨ (¬ ((J : Int) < k ∧ 0 < x)) := Classical.em _
      rcases DD with ⟨hJk, hx0⟩ | hstop
      · have hJn2 : J < n := by
          rcases Nat.lt_or_ge J n with h | h
          · exact h
          · have := best_end hQ.out HSG.out j (by have := HJ.out; omega)
            rw [HX.out] at this; omega
        have KM := Lib.hid (more_any w.heap.size gl n _ G (rwP Af j) Af w3 h0n h128 HBJ.out (HW.out.next EE.out) (fun b e h1 h2 => sgs_bd hQ.out HSG.out h1 h2) (fun b hb => rwP_bd hQ.out HSG.out j b hb))
        have HJK2 : Hid (((J + 1 : Nat) : Int) ≤ k) := Lib.hid (by omega)
        clear HJK HX
        go_wp2_with fail
        refine KM.out.mono ?_
        rintro e w4 ⟨g, rfl, hB, hb⟩
        have HB4 := Lib.hid (hB.alloc (.cells #[.slice (some ⟨g, 0, none⟩) (n + 1) (n + 1)] 41))
        have HR4 := Lib.hid ((HRW.out.next hb).alloc (.cells #[.slice (some ⟨g, 0, none⟩) (n + 1) (n + 1)] 41))
        have E4 := Lib.hid (EE.out.trans (hb.mono EE.out.size))
        have E5 := Lib.hid (E4.out.alloc E4.out.size (.cells #[.slice (some ⟨g, 0, none⟩) (n + 1) (n + 1)] 41))
        have hsz := E4.out.size
        have hown := HR4.out.row
        clear hB hb c2 KM
        go_wp2_with (at_builtin; refine wpList_append_own _ rfl _ _ 39 rfl w2.heap.size 41 i1 (.slice none 0 0) 1 24 Try.underlying39 gi gz0 gz1 gz2 rfl (by decide) _ _ _ rfl hown ⟨_, 0, none⟩ 1 1 [.slice (some ⟨g, 0, none⟩) (n + 1) (n + 1)] rfl rfl one_newR (by intro u hu; simp at hu; subst hu; rfl) (by unfold maxLen; omega) (by omega) (by simp; omega) ?_; intro v' w5 hown' hgrow _)
        have HR5 := Lib.hid (HR4.out.push HB4.out hown' hgrow)
        have hA : (fun i => if i = J then (fun e j_1 => stp (rwP Af j) Af e e j_1) else rwP Af i) = rwP Af := funext fun i => by
          by_cases q : i = J
          · rw [if_pos q, q, HJ.out]; rfl
          · rw [if_neg q]
        rw [hA] at HR5
        have E6 := Lib.hid (E5.out.grown hgrow (by simp; omega) (fun r hr => (HR4.out.row.lt r hr).1))
        clear hown hown' hgrow hA HR4 HB4 E4 E5 HRW EE HBJ
        go_wp2_with fail
        go_roundg (n - (J + 1))
        case measure => omega
        case rel => exact ⟨J + 1, J, _, rfl, by omega, Lib.hid rfl, HJK2, by simp, HR5, E6⟩
      · have HOPT : Hid (OptP zs n k (chP Af j n) x) := Lib.hid (by
          have h1 : k ≤ (J : Int) ∨ x ≤ 0 := by omega
          have h2 := HJK.out
          rw [HJ.out] at h1 h2
          rw [← HX.out] at h1 ⊢
          exact best_opt hQ.out HSG.out j k h2 h1)
        have HLEN : Hid ((chP Af j n).length ≤ 128) := Lib.hid (by have : (chP Af j n).length ≤ j + 1 := chn_len _ _ j n; have := HJ.out; omega)
        have KP := Lib.hid (places_any w2.heap.size n J _ G' (zat zs) Af w3.drew h0n h128 hJ0 (by omega) HSG.out HRW.out.drew)
        rw [show J - 1 = j by have := HJ.out; omega] at KP
        have HA := Lib.hid (at1 c2)
        have hE2 := E2.out.trans (EE.out.mono HSZ.out)
        clear EE HRW HBJ c2 hgl
        have EE := Lib.hid hE2
        clear hE2
        by_cases hJk : (J : Int) < k
        · have hx0 : ¬ 0 < x := fun h => hstop ⟨hJk, h⟩
          clear hstop
          have kA0 : w3.cell? ⟨gl, n * 3 + 2, none⟩ = some (.int .i64 x) := HA.out 0 _ rfl
          go_wp2_with fail
          have sK : ∀ X, At X gl (n * 3 + 2) #[.int .i64 x] → (fun X => X.cell? ⟨gl, n * 3 + 2, none⟩ = some (.int .i64 x)) X := fun X hA => hA 0 _ rfl
          have LA0 := Lib.hid (HA.out.drew)
          have E0 := Lib.hid (EE.out.drew)
          clear kA0
          refine wp_region_held_drew (S := (fun X => X.cell? ⟨gl, n * 3 + 2, none⟩ = some (.int .i64 x))) (by kernel_rfl) (sK _ LA0.out) (fun hHeld => ?_)
          clear hHeld
          refine wpAnyH_take (i := 0) (v := ?_) rfl (by kernel_rfl) (by kernel_rfl) (by kernel_rfl) (fun _ _ _ h => h) (Or.inl ⟨by rfl, ?_⟩) (sK _ LA0.out) ?_
          rotate_left
          · (intro wS hSw; (try dsimp only at hSw); go_simp; try with_reducible rfl)
          simp only [Act.put, List.getElem_toArray, List.getElem_cons_zero, List.getElem_cons_succ, List.setIfInBounds_toArray, List.set_cons_zero, List.set_cons_succ]
          refine wpAnyH_take (i := 1) (v := ?_) rfl (by kernel_rfl) (by kernel_rfl) (by kernel_rfl) (fun _ _ _ h => h) (Or.inl ⟨by rfl, ?_⟩) (sK _ LA0.out) ?_
          rotate_left
          · (intro wS hSw; (try dsimp only at hSw); go_simp; try with_reducible rfl)
          simp only [Act.put, List.getElem_toArray, List.getElem_cons_zero, List.getElem_cons_succ, List.setIfInBounds_toArray, List.set_cons_zero, List.set_cons_succ]
          refine wpAnyH_take (i := 2) (v := ?_) rfl (by kernel_rfl) (by kernel_rfl) (by kernel_rfl) (fun _ _ _ h => h) (Or.inl ⟨by rfl, ?_⟩) (sK _ LA0.out) ?_
          rotate_left
          · (intro wS hSw; (try dsimp only at hSw); go_simp; try with_reducible rfl)
          simp only [Act.put, List.getElem_toArray, List.getElem_cons_zero, List.getElem_cons_succ, List.setIfInBounds_toArray, List.set_cons_zero, List.set_cons_succ]
          refine wpAnyH_take (i := 4) (v := ?_) rfl (by kernel_rfl) (by kernel_rfl) (by kernel_rfl) (fun _ _ _ h => h) (Or.inl ⟨by rfl, ?_⟩) (sK _ LA0.out) ?_
          rotate_left
          · (intro wS hSw; (try dsimp only at hSw); go_simp; try with_reducible rfl)
          simp only [Act.put, List.getElem_toArray, List.getElem_cons_zero, List.getElem_cons_succ, List.setIfInBounds_toArray, List.set_cons_zero, List.set_cons_succ]
          refine wpAnyH_take (i := 5) (v := ?_) rfl (by kernel_rfl) (by kernel_rfl) (by kernel_rfl) (fun _ _ _ h => h) (Or.inl ⟨by rfl, ?_⟩) (sK _ LA0.out) ?_
          rotate_left
          · (intro wS hSw; (try dsimp only at hSw); go_simp; try with_reducible rfl)
          simp only [Act.put, List.getElem_toArray, List.getElem_cons_zero, List.getElem_cons_succ, List.setIfInBounds_toArray, List.set_cons_zero, List.set_cons_succ]
          refine wpAnyH_take (i := 6) (v := ?_) rfl (by kernel_rfl) (by kernel_rfl) (by kernel_rfl) (fun _ _ _ h => h) (Or.inl ⟨by rfl, ?_⟩) (sK _ LA0.out) ?_
          rotate_left
          · (intro wS hSw; (try dsimp only at hSw); go_simp; try with_reducible rfl)
          simp only [Act.put, List.getElem_toArray, List.getElem_cons_zero, List.getElem_cons_succ, List.setIfInBounds_toArray, List.set_cons_zero, List.set_cons_succ]
          refine wpAnyH_take (i := 7) (v := ?_) rfl (by kernel_rfl) (by kernel_rfl) (by kernel_rfl) (fun _ _ _ h => h) (Or.inl ⟨by rfl, ?_⟩) (sK _ LA0.out) ?_
          rotate_left
          · (intro wS hSw; (try dsimp only at hSw); go_simp; try with_reducible rfl)
          simp only [Act.put, List.getElem_toArray, List.getElem_cons_zero, List.getElem_cons_succ, List.setIfInBounds_toArray, List.set_cons_zero, List.set_cons_succ]
          refine wpAnyH_take (i := 8) (v := ?_) rfl (by kernel_rfl) (by kernel_rfl) (by kernel_rfl) (fun _ _ _ h => h) (Or.inl ⟨by rfl, ?_⟩) (sK _ LA0.out) ?_
          rotate_left
          · (intro wS hSw; (try dsimp only at hSw); go_simp; try with_reducible rfl)
          simp only [Act.put, List.getElem_toArray, List.getElem_cons_zero, List.getElem_cons_succ, List.setIfInBounds_toArray, List.set_cons_zero, List.set_cons_succ]
          refine wpAnyH_take (i := 9) (v := ?_) rfl (by kernel_rfl) (by kernel_rfl) (by kernel_rfl) (fun _ _ _ h => h) (Or.inl ⟨by rfl, ?_⟩) (sK _ LA0.out) ?_
          rotate_left
          · (intro wS hSw; (try dsimp only at hSw); go_simp; try with_reducible rfl)
          simp only [Act.put, List.getElem_toArray, List.getElem_cons_zero, List.getElem_cons_succ, List.setIfInBounds_toArray, List.set_cons_zero, List.set_cons_succ]
          refine wpAnyH_ready (rs := [3]) (by kernel_rfl) (by simp) ?_
          refine AllReadyH.cons rfl (fun K hK => ?_) AllReadyH.nil
          go_simp
          refine (KP.out).mono ?_
          rintro e r1 ⟨P, cp, rfl, hr5, hb⟩
          have LA1 := Lib.hid (At.next (w := w3.drew) LA0.out hb)
          have E1 := Lib.hid (E0.out.trans (hb.mono E0.out.size))
          have HR5 := Lib.hid hr5; clear hr5
          clear hb
          go_wp2_with fail
          refine hK.out _ _ (sK _ LA1.out) (fun hHeld => ?_)
          clear hK K hHeld
          try simp only [Act.put, List.getElem_toArray, List.getElem_cons_zero, List.getElem_cons_succ, List.setIfInBounds_toArray, List.set_cons_zero, List.set_cons_succ]
          refine wpAnyH_take (i := 10) (v := ?_) rfl (by kernel_rfl) (by kernel_rfl) (by kernel_rfl) (fun _ _ _ h => h) (Or.inl ⟨by rfl, ?_⟩) (sK _ LA1.out) ?_
          rotate_left
          · (intro wS hSw; (try dsimp only at hSw); go_simp; try with_reducible rfl)
          simp only [Act.put, List.getElem_toArray, List.getElem_cons_zero, List.getElem_cons_succ, List.setIfInBounds_toArray, List.set_cons_zero, List.set_cons_succ]
          refine wpAnyH_take (i := 11) (v := ?_) rfl (by kernel_rfl) (by kernel_rfl) (by kernel_rfl) (fun _ _ _ h => h) (Or.inl ⟨by rfl, ?_⟩) (sK _ LA1.out) ?_
          rotate_left
          · (intro wS hSw; (try dsimp only at hSw); go_simp; try with_reducible rfl)
          simp only [Act.put, List.getElem_toArray, List.getElem_cons_zero, List.getElem_cons_succ, List.setIfInBounds_toArray, List.set_cons_zero, List.set_cons_succ]
          refine wpAnyH_take (i := 12) (v := ?_) rfl (by kernel_rfl) (by kernel_rfl) (by kernel_rfl) (fun _ _ _ h => h) (Or.inl ⟨by rfl, ?_⟩) (sK _ LA1.out) ?_
          rotate_left
          · (intro wS hSw; (try dsimp only at hSw); go_simp; try with_reducible rfl)
          simp only [Act.put, List.getElem_toArray, List.getElem_cons_zero, List.getElem_cons_succ, List.setIfInBounds_toArray, List.set_cons_zero, List.set_cons_succ]
          refine wpAnyH_done (by kernel_rfl) ?_ _
          go_wp2_with fail
          refine bodyPost_ret (v := .tuple #[.slice P (chP Af j n).length cp, .int .i64 x, .int .i64 0]) (by simp [results, Try.results9, go_sem]) rfl ?_
          rw [← HRR.out]
          exact ⟨E1.out, Or.inl ⟨hQ.out, HK1.out, P, cp, chP Af j n, x, rfl, HR5.out, HLEN.out, HOPT.out⟩⟩
        · clear hstop
          have kA0 : w3.cell? ⟨gl, n * 3 + 2, none⟩ = some (.int .i64 x) := HA.out 0 _ rfl
          go_wp2_with fail
          have sK : ∀ X, At X gl (n * 3 + 2) #[.int .i64 x] → (fun X => X.cell? ⟨gl, n * 3 + 2, none⟩ = some (.int .i64 x)) X := fun X hA => hA 0 _ rfl
          have LA0 := Lib.hid (HA.out.drew)
          have E0 := Lib.hid (EE.out.drew)
          clear kA0
          refine wp_region_held_drew (S := (fun X => X.cell? ⟨gl, n * 3 + 2, none⟩ = some (.int .i64 x))) (by kernel_rfl) (sK _ LA0.out) (fun hHeld => ?_)
          clear hHeld
          refine wpAnyH_take (i := 0) (v := ?_) rfl (by kernel_rfl) (by kernel_rfl) (by kernel_rfl) (fun _ _ _ h => h) (Or.inl ⟨by rfl, ?_⟩) (sK _ LA0.out) ?_
          rotate_left
          · (intro wS hSw; (try dsimp only at hSw); go_simp; try with_reducible rfl)
          simp only [Act.put, List.getElem_toArray, List.getElem_cons_zero, List.getElem_cons_succ, List.setIfInBounds_toArray, List.set_cons_zero, List.set_cons_succ]
          refine wpAnyH_take (i := 1) (v := ?_) rfl (by kernel_rfl) (by kernel_rfl) (by kernel_rfl) (fun _ _ _ h => h) (Or.inl ⟨by rfl, ?_⟩) (sK _ LA0.out) ?_
          rotate_left
          · (intro wS hSw; (try dsimp only at hSw); go_simp; try with_reducible rfl)
          simp only [Act.put, List.getElem_toArray, List.getElem_cons_zero, List.getElem_cons_succ, List.setIfInBounds_toArray, List.set_cons_zero, List.set_cons_succ]
          refine wpAnyH_take (i := 2) (v := ?_) rfl (by kernel_rfl) (by kernel_rfl) (by kernel_rfl) (fun _ _ _ h => h) (Or.inl ⟨by rfl, ?_⟩) (sK _ LA0.out) ?_
          rotate_left
          · (intro wS hSw; (try dsimp only at hSw); go_simp; try with_reducible rfl)
          simp only [Act.put, List.getElem_toArray, List.getElem_cons_zero, List.getElem_cons_succ, List.setIfInBounds_toArray, List.set_cons_zero, List.set_cons_succ]
          refine wpAnyH_take (i := 4) (v := ?_) rfl (by kernel_rfl) (by kernel_rfl) (by kernel_rfl) (fun _ _ _ h => h) (Or.inl ⟨by rfl, ?_⟩) (sK _ LA0.out) ?_
          rotate_left
          · (intro wS hSw; (try dsimp only at hSw); go_simp; try with_reducible rfl)
          simp only [Act.put, List.getElem_toArray, List.getElem_cons_zero, List.getElem_cons_succ, List.setIfInBounds_toArray, List.set_cons_zero, List.set_cons_succ]
          refine wpAnyH_take (i := 5) (v := ?_) rfl (by kernel_rfl) (by kernel_rfl) (by kernel_rfl) (fun _ _ _ h => h) (Or.inl ⟨by rfl, ?_⟩) (sK _ LA0.out) ?_
          rotate_left
          · (intro wS hSw; (try dsimp only at hSw); go_simp; try with_reducible rfl)
          simp only [Act.put, List.getElem_toArray, List.getElem_cons_zero, List.getElem_cons_succ, List.setIfInBounds_toArray, List.set_cons_zero, List.set_cons_succ]
          refine wpAnyH_take (i := 6) (v := ?_) rfl (by kernel_rfl) (by kernel_rfl) (by kernel_rfl) (fun _ _ _ h => h) (Or.inl ⟨by rfl, ?_⟩) (sK _ LA0.out) ?_
          rotate_left
          · (intro wS hSw; (try dsimp only at hSw); go_simp; try with_reducible rfl)
          simp only [Act.put, List.getElem_toArray, List.getElem_cons_zero, List.getElem_cons_succ, List.setIfInBounds_toArray, List.set_cons_zero, List.set_cons_succ]
          refine wpAnyH_take (i := 7) (v := ?_) rfl (by kernel_rfl) (by kernel_rfl) (by kernel_rfl) (fun _ _ _ h => h) (Or.inl ⟨by rfl, ?_⟩) (sK _ LA0.out) ?_
          rotate_left
          · (intro wS hSw; (try dsimp only at hSw); go_simp; try with_reducible rfl)
          simp only [Act.put, List.getElem_toArray, List.getElem_cons_zero, List.getElem_cons_succ, List.setIfInBounds_toArray, List.set_cons_zero, List.set_cons_succ]
          refine wpAnyH_take (i := 8) (v := ?_) rfl (by kernel_rfl) (by kernel_rfl) (by kernel_rfl) (fun _ _ _ h => h) (Or.inl ⟨by rfl, ?_⟩) (sK _ LA0.out) ?_
          rotate_left
          · (intro wS hSw; (try dsimp only at hSw); go_simp; try with_reducible rfl)
          simp only [Act.put, List.getElem_toArray, List.getElem_cons_zero, List.getElem_cons_succ, List.setIfInBounds_toArray, List.set_cons_zero, List.set_cons_succ]
          refine wpAnyH_take (i := 9) (v := ?_) rfl (by kernel_rfl) (by kernel_rfl) (by kernel_rfl) (fun _ _ _ h => h) (Or.inl ⟨by rfl, ?_⟩) (sK _ LA0.out) ?_
          rotate_left
          · (intro wS hSw; (try dsimp only at hSw); go_simp; try with_reducible rfl)
          simp only [Act.put, List.getElem_toArray, List.getElem_cons_zero, List.getElem_cons_succ, List.setIfInBounds_toArray, List.set_cons_zero, List.set_cons_succ]
          refine wpAnyH_ready (rs := [3]) (by kernel_rfl) (by simp) ?_
          refine AllReadyH.cons rfl (fun K hK => ?_) AllReadyH.nil
          go_simp
          refine (KP.out).mono ?_
          rintro e r1 ⟨P, cp, rfl, hr5, hb⟩
          have LA1 := Lib.hid (At.next (w := w3.drew) LA0.out hb)
          have E1 := Lib.hid (E0.out.trans (hb.mono E0.out.size))
          have HR5 := Lib.hid hr5; clear hr5
          clear hb
          go_wp2_with fail
          refine hK.out _ _ (sK _ LA1.out) (fun hHeld => ?_)
          clear hK K hHeld
          try simp only [Act.put, List.getElem_toArray, List.getElem_cons_zero, List.getElem_cons_succ, List.setIfInBounds_toArray, List.set_cons_zero, List.set_cons_succ]
          refine wpAnyH_take (i := 10) (v := ?_) rfl (by kernel_rfl) (by kernel_rfl) (by kernel_rfl) (fun _ _ _ h => h) (Or.inl ⟨by rfl, ?_⟩) (sK _ LA1.out) ?_
          rotate_left
          · (intro wS hSw; (try dsimp only at hSw); go_simp; try with_reducible rfl)
          simp only [Act.put, List.getElem_toArray, List.getElem_cons_zero, List.getElem_cons_succ, List.setIfInBounds_toArray, List.set_cons_zero, List.set_cons_succ]
          refine wpAnyH_take (i := 11) (v := ?_) rfl (by kernel_rfl) (by kernel_rfl) (by kernel_rfl) (fun _ _ _ h => h) (Or.inl ⟨by rfl, ?_⟩) (sK _ LA1.out) ?_
          rotate_left
          · (intro wS hSw; (try dsimp only at hSw); go_simp; try with_reducible rfl)
          simp only [Act.put, List.getElem_toArray, List.getElem_cons_zero, List.getElem_cons_succ, List.setIfInBounds_toArray, List.set_cons_zero, List.set_cons_succ]
          refine wpAnyH_take (i := 12) (v := ?_) rfl (by kernel_rfl) (by kernel_rfl) (by kernel_rfl) (fun _ _ _ h => h) (Or.inl ⟨by rfl, ?_⟩) (sK _ LA1.out) ?_
          rotate_left
          · (intro wS hSw; (try dsimp only at hSw); go_simp; try with_reducible rfl)
          simp only [Act.put, List.getElem_toArray, List.getElem_cons_zero, List.getElem_cons_succ, List.setIfInBounds_toArray, List.set_cons_zero, List.set_cons_succ]
          refine wpAnyH_done (by kernel_rfl) ?_ _
          go_wp2_with fail
          refine bodyPost_ret (v := .tuple #[.slice P (chP Af j n).length cp, .int .i64 x, .int .i64 0]) (by simp [results, Try.results9, go_sem]) rfl ?_
          rw [← HRR.out]
          exact ⟨E1.out, Or.inl ⟨hQ.out, HK1.out, P, cp, chP Af j n, x, rfl, HR5.out, HLEN.out, HOPT.out⟩⟩
end Go.Proofs.Ytloplambpfjioaa
