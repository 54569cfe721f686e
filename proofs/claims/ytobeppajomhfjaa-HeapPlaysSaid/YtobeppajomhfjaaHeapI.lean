/- The document's Put into nothing; its Sorted. -/
import Derived.Test.YtobeppajomhfjaaHeapH
import Derived.WalkKit
import Derived.IntWalk
import Derived.Lib.Hide
import Derived.WalkSpells
import Derived.WalkLawsBesides
import Derived.OwnWalk
import Derived.BigRegion
import Derived.Deep.LoopGhost
import Derived.Deep.RegionHeld3
import Derived.Deep.QuietTactic
import Derived.BigQuiet
import Derived.Laws.CopyOwn
import Derived.Laws.MakeOwn
import Derived.Laws.OwnMore
import Derived.Laws.AppendOwnNone
namespace Go.Proofs.Ytobeppajomhfjaa
open Go.RowKit
set_option linter.unusedVariables false
set_option linter.unusedSimpArgs false
set_option maxRecDepth 100000 in
set_option maxHeartbeats 20000000 in
theorem dput_nil (x : Ent) (w : World) (hx : WfE x) : Calls Try.prog 25 #[.slice none 0 0, aE x] w (PutR [] x w) := by
  obtain ⟨a, d, f⟩ := x
  unfold aE
  dsimp only
  have HX := Lib.hid hx
  clear hx
  go_enter Try.func25, Try.ntmps25
  go_wp2_with fail
  go_loopw [5] (fun i wr => i = .int .i64 0 ∧ Hid (Blk wr w.heap.size 24 #[.int .i64 a, .int .i64 d, .int .i64 f]) ∧ Hid (Below w.heap.size w wr)) (fun i _ => 0)
  case atStart => exact ⟨rfl, Lib.hid (Blk.new w _ _), Lib.hid ((Below.refl w.heap.size w).alloc (Nat.le_refl _) _)⟩
  case round =>
    obtain ⟨rfl, HB, EE⟩ := hrel
    have kB0 : wr.cell? ⟨w.heap.size, 0, none⟩ = some (.int .i64 a) := HB.out.cell 0
    have kB1 : wr.cell? ⟨w.heap.size, 1, none⟩ = some (.int .i64 d) := HB.out.cell 1
    have kB2 : wr.cell? ⟨w.heap.size, 2, none⟩ = some (.int .i64 f) := HB.out.cell 2
    go_wp2_with fail
    have sK : ∀ X, Blk X (w.heap.size) 24 #[.int .i64 a, .int .i64 d, .int .i64 f] → (fun X => X.cell? ⟨w.heap.size, 0, none⟩ = some (.int .i64 a) ∧ X.cell? ⟨w.heap.size, 1, none⟩ = some (.int .i64 d) ∧ X.cell? ⟨w.heap.size, 2, none⟩ = some (.int .i64 f)) X := fun X hB => ⟨hB.cell 0, hB.cell 1, hB.cell 2⟩
    have LB0 := Lib.hid (HB.out.drew)
    have E0 := Lib.hid (EE.out.drew)
    clear kB0 kB1 kB2
    refine wp_region_held_drew (S := (fun X => X.cell? ⟨w.heap.size, 0, none⟩ = some (.int .i64 a) ∧ X.cell? ⟨w.heap.size, 1, none⟩ = some (.int .i64 d) ∧ X.cell? ⟨w.heap.size, 2, none⟩ = some (.int .i64 f))) (by kernel_rfl) (sK _ LB0.out) (fun hHeld => ?_)
    clear hHeld
    refine wpAnyH_take (i := 0) (v := ?_) rfl (by kernel_rfl) (by kernel_rfl) (by kernel_rfl) (fun _ _ _ h => h) (Or.inl ⟨by rfl, ?_⟩) (sK _ LB0.out) ?_
    rotate_left
    · (intro wS hSw; (try dsimp only at hSw); go_simp; try with_reducible rfl)
    simp only [Act.put, List.getElem_toArray, List.getElem_cons_zero, List.getElem_cons_succ, List.setIfInBounds_toArray, List.set_cons_zero, List.set_cons_succ]
    refine wpAnyH_take (i := 1) (v := ?_) rfl (by kernel_rfl) (by kernel_rfl) (by kernel_rfl) (fun _ _ _ h => h) (Or.inl ⟨by rfl, ?_⟩) (sK _ LB0.out) ?_
    rotate_left
    · (intro wS hSw; (try dsimp only at hSw); go_simp; try with_reducible rfl)
    simp only [Act.put, List.getElem_toArray, List.getElem_cons_zero, List.getElem_cons_succ, List.setIfInBounds_toArray, List.set_cons_zero, List.set_cons_succ]
    refine wpAnyH_take (i := 2) (v := ?_) rfl (by kernel_rfl) (by kernel_rfl) (by kernel_rfl) (fun _ _ _ h => h) (Or.inl ⟨by rfl, ?_⟩) (sK _ LB0.out) ?_
    rotate_left
    · (intro wS hSw; (try dsimp only at hSw); go_simp; try with_reducible rfl)
    simp only [Act.put, List.getElem_toArray, List.getElem_cons_zero, List.getElem_cons_succ, List.setIfInBounds_toArray, List.set_cons_zero, List.set_cons_succ]
    refine wpAnyH_take (i := 3) (v := undef) rfl (by kernel_rfl) (by kernel_rfl) (by kernel_rfl) (fun _ _ _ h => h) (Or.inr ⟨by kernel_rfl, rfl⟩) (sK _ LB0.out) ?_
    simp only [Act.put, List.getElem_toArray, List.getElem_cons_zero, List.getElem_cons_succ, List.setIfInBounds_toArray, List.set_cons_zero, List.set_cons_succ]
    refine wpAnyH_take (i := 4) (v := undef) rfl (by kernel_rfl) (by kernel_rfl) (by kernel_rfl) (fun _ _ _ h => h) (Or.inr ⟨by kernel_rfl, rfl⟩) (sK _ LB0.out) ?_
    simp only [Act.put, List.getElem_toArray, List.getElem_cons_zero, List.getElem_cons_succ, List.setIfInBounds_toArray, List.set_cons_zero, List.set_cons_succ]
    refine wpAnyH_take (i := 5) (v := undef) rfl (by kernel_rfl) (by kernel_rfl) (by kernel_rfl) (fun _ _ _ h => h) (Or.inr ⟨by kernel_rfl, rfl⟩) (sK _ LB0.out) ?_
    simp only [Act.put, List.getElem_toArray, List.getElem_cons_zero, List.getElem_cons_succ, List.setIfInBounds_toArray, List.set_cons_zero, List.set_cons_succ]
    refine wpAnyH_take (i := 6) (v := undef) rfl (by kernel_rfl) (by kernel_rfl) (by kernel_rfl) (fun _ _ _ h => h) (Or.inr ⟨by kernel_rfl, rfl⟩) (sK _ LB0.out) ?_
    simp only [Act.put, List.getElem_toArray, List.getElem_cons_zero, List.getElem_cons_succ, List.setIfInBounds_toArray, List.set_cons_zero, List.set_cons_succ]
    refine wpAnyH_take (i := 7) (v := undef) rfl (by kernel_rfl) (by kernel_rfl) (by kernel_rfl) (fun _ _ _ h => h) (Or.inr ⟨by kernel_rfl, rfl⟩) (sK _ LB0.out) ?_
    simp only [Act.put, List.getElem_toArray, List.getElem_cons_zero, List.getElem_cons_succ, List.setIfInBounds_toArray, List.set_cons_zero, List.set_cons_succ]
    refine wpAnyH_take (i := 8) (v := undef) rfl (by kernel_rfl) (by kernel_rfl) (by kernel_rfl) (fun _ _ _ h => h) (Or.inr ⟨by kernel_rfl, rfl⟩) (sK _ LB0.out) ?_
    simp only [Act.put, List.getElem_toArray, List.getElem_cons_zero, List.getElem_cons_succ, List.setIfInBounds_toArray, List.set_cons_zero, List.set_cons_succ]
    refine wpAnyH_take (i := 9) (v := undef) rfl (by kernel_rfl) (by kernel_rfl) (by kernel_rfl) (fun _ _ _ h => h) (Or.inr ⟨by kernel_rfl, rfl⟩) (sK _ LB0.out) ?_
    simp only [Act.put, List.getElem_toArray, List.getElem_cons_zero, List.getElem_cons_succ, List.setIfInBounds_toArray, List.set_cons_zero, List.set_cons_succ]
    refine wpAnyH_take (i := 10) (v := ?_) rfl (by kernel_rfl) (by kernel_rfl) (by kernel_rfl) (fun _ _ _ h => h) (Or.inl ⟨by rfl, ?_⟩) (sK _ LB0.out) ?_
    rotate_left
    · (intro wS hSw; (try dsimp only at hSw); go_simp; try with_reducible rfl)
    simp only [Act.put, List.getElem_toArray, List.getElem_cons_zero, List.getElem_cons_succ, List.setIfInBounds_toArray, List.set_cons_zero, List.set_cons_succ]
    refine wpAnyH_done (by kernel_rfl) ?_ _
    have esz := E0.out.size
    have hwl := LB0.out.lt
    have b0 : wr.drew.cell? ⟨w.heap.size, 0, none⟩ = some (.int .i64 a) := LB0.out.cell 0
    have b1 : wr.drew.cell? ⟨w.heap.size, 1, none⟩ = some (.int .i64 d) := LB0.out.cell 1
    have b2 : wr.drew.cell? ⟨w.heap.size, 2, none⟩ = some (.int .i64 f) := LB0.out.cell 2
    have c0 : wr.cell? ⟨w.heap.size, 0, none⟩ = some (.int .i64 a) := LB0.out.cell 0
    have c1 : wr.cell? ⟨w.heap.size, 1, none⟩ = some (.int .i64 d) := LB0.out.cell 1
    have c2 : wr.cell? ⟨w.heap.size, 2, none⟩ = some (.int .i64 f) := LB0.out.cell 2
    go_wp2_with (first
      | (at_builtin; refine append_ent rfl _ _ rfl wr.drew.heap.size (.slice none 0 0) 0 [] rfl ⟨rfl, Or.inl ⟨rfl, rfl⟩⟩ wr.drew.heap.size 1 a d f rfl (Blk.new wr.drew _ _) (by omega) (by simp) ?_; intro v2 w2 o2 q2 _; have s2 := q2.size)
      | (at_builtin; refine append_ents rfl _ _ rfl wr.drew.heap.size v2 (0 + 1) ([] ++ [.int .i64 a, .int .i64 d, .int .i64 f]) rfl o2 none 0 0 (fun _ _ => 0) rfl (fun i hi => absurd hi (Nat.not_lt_zero i)) (Nat.le_refl _) (fun _ => rfl) (by omega) (Nat.le_trans (by simp) s2) ?_; intro v3 w3 o3 q3))
    go_ret
    exact ⟨v3, 0, rfl, Nat.le_refl _, own_isE (own_put (L := []) (k := 0) (Nat.le_refl _) (by simpa [rowM_zero] using o3)) (fun y hy => put_wf (L := []) HX.out (fun y h => by simp at h) hy), fun j _ h => absurd h (Nat.not_lt_zero _), fun h => absurd h (Nat.lt_irrefl _), E0.out.trans ((((Below.refl wr.heap.size wr.drew).alloc (Nat.le_refl _) _).trans (q2.trans q3)).mono esz), own_new o3 (by have := E0.out.size; omega)⟩
set_option maxHeartbeats 4000000 in
theorem dput_any (v : Value) (x : Ent) (L : List Ent) (w : World) (hv : IsE w v L) (h0 : L = [] → v = .slice none 0 0) (hl : L.length ≤ 1000) (hx : WfE x) : Calls Try.prog 25 #[v, aE x] w (PutR L x w) := by
  have hw := hv.wf
  rcases Nat.eq_zero_or_pos L.length with e | e
  · obtain rfl := List.length_eq_zero_iff.1 e
    obtain rfl := h0 rfl
    exact dput_nil x w hx
  · obtain ⟨A, c, rfl, hr, h1, h2, h3⟩ := hv
    obtain ⟨b, o, rfl, _, _⟩ := rdZ_row hr (by omega) (by omega)
    exact dput_some b o c x L w hr e hl h1 h2 hx hw
def DSrR (L : List Ent) (w : World) (e : Ending) (w' : World) : Prop := ∃ v' M, e = .returned v' ∧ M.Perm L ∧ OrdP M ∧ IsE w' v' M ∧ Below w.heap.size w w' ∧ NewR w v'
set_option maxRecDepth 100000 in
set_option maxHeartbeats 8000000 in
theorem dsorted_any (v : Value) (L : List Ent) (w : World) (hv : IsE w v L) (hl : L.length ≤ 1000) : Calls Try.prog 8 #[v] w (DSrR L w) := by
  have hw := hv.wf
  obtain ⟨A, c, rfl, hr, hc1, hc2, hc3⟩ := hv
  have HD := Lib.hid hr; have HW := Lib.hid hw
  obtain ⟨R, hR⟩ : ∃ R : Ending → World → Prop, DSrR L w = R := ⟨_, rfl⟩
  have HR := Lib.hid hR
  rw [hR]
  obtain ⟨n, hn⟩ : ∃ n, L.length = n := ⟨_, rfl⟩
  have HN := Lib.hid hn
  rw [hn] at hl hc1 HD ⊢
  clear hr hw hR hn
  go_enter Try.func8, Try.ntmps8
  go_wp2_with fail
  go_loopw [3, 4] (fun rv i wr => ∃ (k : Nat) (M : List Ent) (v : Value), v = rv ∧ k ≤ n ∧ i = .int .i64 k ∧ Hid (M.Perm (L.take k)) ∧ Hid (OrdP M) ∧ Hid (IsE wr v M) ∧ Hid (M = [] → v = .slice none 0 0) ∧ Hid (Below w.heap.size w wr) ∧ Hid (NewR w v)) (fun _ i _ => n - (intOf i).toNat)
  case atStart => exact ⟨0, [], _, rfl, by omega, rfl, Lib.hid (List.Perm.refl _), Lib.hid List.Pairwise.nil, Lib.hid ⟨none, 0, rfl, fun i hi => absurd hi (Nat.not_lt_zero _), Nat.le_refl _, by unfold maxLen; omega, fun _ => rfl⟩, Lib.hid fun _ => rfl, Lib.hid (Below.refl _ _), Lib.hid (fun a n c h => by cases h)⟩
  case round =>
    obtain ⟨k, M, rv, rfl, hk, rfl, HP, HO, HE, HV, EE, NW⟩ := hrel
    by_cases h : k < n
    case neg =>
      have hkk : Hid (L.take k = L) := Lib.hid (List.take_of_length_le (by have := HN.out; omega))
      go_wp2_with fail
      rw [← HR.out]
      exact ⟨_, M, rfl, by have := HP.out; rwa [hkk.out] at this, HO.out, HE.out, EE.out, NW.out⟩
    case pos =>
      obtain ⟨b, o, rfl, hlt, hcell⟩ := rdZ_row HD.out (by omega) (by omega)
      have c0 : w.cell? ⟨b, o + k * 3, none⟩ = _ := hcell k 0 h (by omega)
      have c1 := hcell k 1 h (by omega)
      have c2 := hcell k 2 h (by omega)
      have hkL : k < L.length := by have := HN.out; omega
      have hg := zE_at hkL
      obtain ⟨p, hp⟩ : ∃ p, zE L k 0 = p := ⟨_, rfl⟩
      obtain ⟨q, hq⟩ : ∃ p, zE L k 1 = p := ⟨_, rfl⟩
      obtain ⟨s, hs⟩ : ∃ p, zE L k 2 = p := ⟨_, rfl⟩
      rw [hp, hq, hs] at hg
      rw [hp] at c0
      rw [hq] at c1
      rw [hs] at c2
      have k0 := (EE.out.cell (p := ⟨b, o + k * 3, none⟩) (lt_of_cell c0)).trans c0
      have k1 := (EE.out.cell (p := ⟨b, o + k * 3 + 1, none⟩) (lt_of_cell c1)).trans c1
      have k2 := (EE.out.cell (p := ⟨b, o + k * 3 + 2, none⟩) (lt_of_cell c2)).trans c2
      have hx : WfE (p, q, s) := by rw [← hg]; exact HW.out _ (List.getElem_mem hkL)
      have hml : M.length ≤ 1000 := by have := HP.out.length_eq; rw [List.length_take] at this; omega
      have KP := Lib.hid (dput_any rv (p, q, s) M wr HE.out HV.out hml hx)
      have HT : Hid (L.take (k + 1) = L.take k ++ [(p, q, s)]) := Lib.hid (by rw [List.take_succ_eq_append_getElem hkL, hg])
      clear hcell c0 c1 c2 hp hq hs hx hg hkL hml
      unfold aE at KP
      dsimp only at KP
      go_wp2_with fail
      refine KP.out.mono ?_
      rintro e w1 ⟨v1, i, rfl, hi, he, h1, h2, hb, hnw⟩
      have P1 : Hid ((M.take i ++ (p, q, s) :: M.drop i).Perm (L.take (k + 1))) := Lib.hid (by
        rw [HT.out]
        exact (put_perm M (p, q, s) i).trans (((List.perm_cons _).2 HP.out).trans (List.perm_append_comm (l₁ := [(p, q, s)]))))
      have O1 := Lib.hid (ordP_put HO.out hi h1 h2)
      have E1 := Lib.hid he
      have B1 : Hid (Below w.heap.size w w1) := Lib.hid (EE.out.trans (hb.mono EE.out.size))
      have N1 : Hid (NewR w v1) := Lib.hid (fun a n c h => Nat.le_trans EE.out.size (hnw a n c h))
      clear hi he h1 h2 hb k0 k1 k2 hnw
      go_wp2_with fail
      go_roundw
      case rel => exact ⟨k + 1, M.take i ++ (p, q, s) :: M.drop i, _, rfl, by omega, by go_num, P1, O1, E1, Lib.hid (fun h => absurd h (by simp)), B1, N1⟩
      case measure => simp [intOf]; omega
end Go.Proofs.Ytobeppajomhfjaa
