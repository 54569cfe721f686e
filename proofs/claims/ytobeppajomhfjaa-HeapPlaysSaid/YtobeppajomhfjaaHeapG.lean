/- The document's Put and Sorted at any row of entries. -/
import Derived.Test.YtobeppajomhfjaaHeapF
import Derived.WalkKit
import Derived.IntWalk
import Derived.Lib.Hide
import Derived.WalkSpells
import Derived.WalkLawsBesides
import Derived.OwnWalk
import Derived.BigRegion
import Derived.Deep.LoopGhost
import Derived.Deep.RegionHeld3
import Derived.Deep.QuietTactic
import Derived.BigQuiet
import Derived.Laws.CopyOwn
import Derived.Laws.MakeOwn
import Derived.Laws.OwnMore
import Derived.Laws.AppendOwnNone
namespace Go.Proofs.Ytobeppajomhfjaa
open Go.RowKit
set_option linter.unusedVariables false
set_option linter.unusedSimpArgs false
theorem zE_app (L M : List Ent) (i j : Nat) : zE (L ++ M) i j = if i < L.length then zE L i j else zE M (i - L.length) j := by
  unfold zE
  by_cases h : i < L.length
  · rw [if_pos h, List.getD_eq_getElem?_getD, List.getElem?_append_left h, ← List.getD_eq_getElem?_getD]
  · rw [if_neg h, List.getD_eq_getElem?_getD, List.getElem?_append_right (by omega), ← List.getD_eq_getElem?_getD]
theorem rowE_app (L M : List Ent) : rowM 3 (zE L) L.length ++ rowM 3 (zE M) M.length = rowM 3 (zE (L ++ M)) (L ++ M).length := by
  rw [List.length_append]
  have key : ∀ k, rowM 3 (zE L) L.length ++ rowM 3 (zE M) k = rowM 3 (zE (L ++ M)) (L.length + k) := fun k => by
    induction k with
    | zero => rw [rowM_zero, List.append_nil]; exact rowM_congr (fun i j hi hj => by rw [zE_app, if_pos (by omega)])
    | succ k ih =>
      rw [rowM_succ, ← List.append_assoc, ih, ← Nat.add_assoc, rowM_succ]
      congr 1
      refine List.map_congr_left fun j _ => ?_
      rw [zE_app, if_neg (by omega), Nat.add_sub_cancel_left]
  exact key M.length
theorem own_isE {w : World} {base : Nat} {v : Value} {L : List Ent} (h : w.ownsRow base 24 3 v L.length (rowM 3 (zE L) L.length)) (hwf : ∀ y, y ∈ L → WfE y) : IsE w v L := by
  obtain ⟨A, c, h1, h2, h3, h4⟩ := ownM_rd h (fun i j hi hj => zE_wf hwf hi hj)
  refine ⟨A, c, h1, h4, h2, h3, fun e => ?_⟩
  rcases h.2 with ⟨hv, hn⟩ | ⟨g, cap, cur, hv, _⟩
  · rw [h1] at hv; simp only [Value.slice.injEq] at hv; exact hv.2.2
  · rw [h1, e] at hv; simp at hv
theorem put_wf {x : Ent} {L : List Ent} {k : Nat} (hx : WfE x) (hw : ∀ y, y ∈ L → WfE y) {y : Ent} (hy : y ∈ L.take k ++ x :: L.drop k) : WfE y := by
  rw [List.mem_append, List.mem_cons] at hy
  rcases hy with h | rfl | h
  · exact hw y (List.mem_of_mem_take h)
  · exact hx
  · exact hw y (List.mem_of_mem_drop h)
theorem own_put {w : World} {base : Nat} {v : Value} {L : List Ent} {k : Nat} {a d f : Int} (hk : k ≤ L.length) (h : w.ownsRow base 24 3 v (0 + k + 1 + (L.length - k)) ([] ++ rowM 3 (zE L) k ++ [.int .i64 a, .int .i64 d, .int .i64 f] ++ rowM 3 (fun i j => zE L (k + i) j) (L.length - k))) :
    w.ownsRow base 24 3 v (L.take k ++ (a, d, f) :: L.drop k).length (rowM 3 (zE (L.take k ++ (a, d, f) :: L.drop k)) (L.take k ++ (a, d, f) :: L.drop k).length) := by
  have e1 : rowM 3 (zE L) k = rowM 3 (zE (L.take k)) (L.take k).length := by
    rw [List.length_take, Nat.min_eq_left hk]
    refine rowM_congr fun i j hi hj => ?_
    unfold zE
    rw [List.getD_eq_getElem?_getD, List.getD_eq_getElem?_getD, List.getElem?_take_of_lt hi]
  have e2 : rowM 3 (fun i j => zE L (k + i) j) (L.length - k) = rowM 3 (zE (L.drop k)) (L.drop k).length := by
    rw [List.length_drop]
    refine rowM_congr fun i j hi hj => ?_
    unfold zE
    rw [List.getD_eq_getElem?_getD, List.getD_eq_getElem?_getD, List.getElem?_drop]
  have e3 := rowE_push (L.take k) (a, d, f)
  have e4 := rowE_app (L.take k ++ [(a, d, f)]) (L.drop k)
  have e5 : L.take k ++ [(a, d, f)] ++ L.drop k = L.take k ++ (a, d, f) :: L.drop k := by simp
  have e6 : (L.take k ++ (a, d, f) :: L.drop k).length = 0 + k + 1 + (L.length - k) := by simp; omega
  rw [List.nil_append, e1, e2, e3, e4, e5] at h
  rw [← e6] at h
  exact h
theorem rdZ_dropE {w : World} {b o n : Nat} {z : Nat → Nat → Int} (k : Nat) (h : RdZ w 3 (some ⟨b, o, none⟩) n z) : RdZ w 3 (some ⟨b, o + k * 3, none⟩) (n - k) (fun i j => z (k + i) j) := by
  intro i hi
  obtain ⟨a, e, h1, hc⟩ := h (k + i) (by omega)
  obtain rfl := Option.some.inj e
  refine ⟨_, rfl, h1, fun j hj => ?_⟩
  have := hc j hj
  have ea : ∀ m, (⟨b, o, none⟩ : Addr).add m = ⟨b, o + m, none⟩ := fun m => by unfold Addr.add; split <;> simp_all
  have ea2 : ∀ m, (⟨b, o + k * 3, none⟩ : Addr).add m = ⟨b, o + k * 3 + m, none⟩ := fun m => by unfold Addr.add; split <;> simp_all
  rw [ea] at this
  rw [ea2, show o + k * 3 + (i * 3 + j) = o + ((k + i) * 3 + j) by omega]
  exact this
theorem at3 {w : World} {b o : Nat} {v0 v1 v2 : Value} (h0 : w.cell? ⟨b, o, none⟩ = some v0) (h1 : w.cell? ⟨b, o + 1, none⟩ = some v1) (h2 : w.cell? ⟨b, o + 2, none⟩ = some v2) : At w b o #[v0, v1, v2] := fun i v hv => by
  rcases i with _ | _ | _ | i <;> simp at hv <;> subst hv <;> assumption
/-- it lies in new memory -/
def NewR (w : World) (v : Value) : Prop := ∀ a n c, v = .slice (some a) n c → w.heap.size ≤ a.block
theorem own_new {w w' : World} {base m n : Nat} {e : TypeId} {v : Value} {xs : List Value} (h : w'.ownsRow base e m v n xs) (hb : w.heap.size ≤ base) : NewR w v := fun a k c hv => by
  rcases h.2 with ⟨h1, _⟩ | ⟨g, cap, cur, h1, h2, _⟩
  · rw [hv] at h1; simp at h1
  · rw [hv] at h1; simp only [Value.slice.injEq, Option.some.injEq] at h1; rw [h1.1]; exact Nat.le_trans hb h2
def eE (L : List Ent) (i : Nat) : Ent := (zE L i 0, zE L i 1, zE L i 2)
def PutR (L : List Ent) (x : Ent) (w : World) (e : Ending) (w' : World) : Prop := ∃ v' i, e = .returned v' ∧ i ≤ L.length ∧ IsE w' v' (L.take i ++ x :: L.drop i) ∧ (∀ j, i ≤ j → j < L.length → ltb x (eE L j) = true) ∧ (0 < i → ltb x (eE L (i - 1)) = false) ∧ Below w.heap.size w w' ∧ NewR w v'
set_option maxRecDepth 100000 in
set_option maxHeartbeats 20000000 in
theorem dput_some (b o c : Nat) (x : Ent) (L : List Ent) (w : World) (hr : RdZ w 3 (some ⟨b, o, none⟩) L.length (zE L)) (h0 : 0 < L.length) (hl : L.length ≤ 1000) (hc : L.length ≤ c) (hcm : c ≤ maxLen) (hx : WfE x) (hw : ∀ y, y ∈ L → WfE y) :
    Calls Try.prog 25 #[.slice (some ⟨b, o, none⟩) L.length c, aE x] w (PutR L x w) := by
  obtain ⟨R, hR⟩ : ∃ R : Ending → World → Prop, PutR L x w = R := ⟨_, rfl⟩
  have HR := Lib.hid hR
  rw [hR]
  clear hR
  obtain ⟨a, d, f⟩ := x
  unfold aE
  dsimp only
  have HD := Lib.hid hr
  obtain ⟨n, hn⟩ : ∃ n, L.length = n := ⟨_, rfl⟩
  have HN := Lib.hid hn
  rw [hn] at hl hc HD h0 ⊢
  have HX := Lib.hid hx; have HW := Lib.hid hw
  clear hr hn hx hw
  go_enter Try.func25, Try.ntmps25
  go_wp2_with fail
  go_loopw [5] (fun i wr => ∃ k : Nat, k ≤ n ∧ i = .int .i64 k ∧ Hid (∀ j, k ≤ j → j < n → ltb (a, d, f) (eE L j) = true) ∧ Hid (Blk wr w.heap.size 24 #[.int .i64 a, .int .i64 d, .int .i64 f]) ∧ Hid (Below w.heap.size w wr)) (fun i _ => (intOf i).toNat)
  case atStart => exact ⟨n, by omega, rfl, Lib.hid fun j h1 h2 => absurd h1 (by omega), Lib.hid (Blk.new w _ _), Lib.hid ((Below.refl w.heap.size w).alloc (Nat.le_refl _) _)⟩
  case round =>
    obtain ⟨k, hk, rfl, HA, HB, EE⟩ := hrel
    by_cases hk0 : k = 0
    · have hkz : ¬ (0 : Int) < (k : Int) := by omega
      have hkz2 : ¬ 0 < k := by omega
      have hk0' := Lib.hid hk0
      clear hk0
      have kB0 : wr.cell? ⟨w.heap.size, 0, none⟩ = some (.int .i64 a) := HB.out.cell 0
      have kB1 : wr.cell? ⟨w.heap.size, 1, none⟩ = some (.int .i64 d) := HB.out.cell 1
      have kB2 : wr.cell? ⟨w.heap.size, 2, none⟩ = some (.int .i64 f) := HB.out.cell 2
      go_wp2_with fail
      have sK : ∀ X, Blk X (w.heap.size) 24 #[.int .i64 a, .int .i64 d, .int .i64 f] → (fun X => X.cell? ⟨w.heap.size, 0, none⟩ = some (.int .i64 a) ∧ X.cell? ⟨w.heap.size, 1, none⟩ = some (.int .i64 d) ∧ X.cell? ⟨w.heap.size, 2, none⟩ = some (.int .i64 f)) X := fun X hB => ⟨hB.cell 0, hB.cell 1, hB.cell 2⟩
      have LB0 := Lib.hid (HB.out.drew)
      have E0 := Lib.hid (EE.out.drew)
      clear kB0 kB1 kB2
      refine wp_region_held_drew (S := (fun X => X.cell? ⟨w.heap.size, 0, none⟩ = some (.int .i64 a) ∧ X.cell? ⟨w.heap.size, 1, none⟩ = some (.int .i64 d) ∧ X.cell? ⟨w.heap.size, 2, none⟩ = some (.int .i64 f))) (by kernel_rfl) (sK _ LB0.out) (fun hHeld => ?_)
      clear hHeld
      refine wpAnyH_take (i := 0) (v := ?_) rfl (by kernel_rfl) (by kernel_rfl) (by kernel_rfl) (fun _ _ _ h => h) (Or.inl ⟨by rfl, ?_⟩) (sK _ LB0.out) ?_
      rotate_left
      · (intro wS hSw; (try dsimp only at hSw); go_simp; try with_reducible rfl)
      simp only [Act.put, List.getElem_toArray, List.getElem_cons_zero, List.getElem_cons_succ, List.setIfInBounds_toArray, List.set_cons_zero, List.set_cons_succ]
      refine wpAnyH_take (i := 1) (v := ?_) rfl (by kernel_rfl) (by kernel_rfl) (by kernel_rfl) (fun _ _ _ h => h) (Or.inl ⟨by rfl, ?_⟩) (sK _ LB0.out) ?_
      rotate_left
      · (intro wS hSw; (try dsimp only at hSw); go_simp; try with_reducible rfl)
      simp only [Act.put, List.getElem_toArray, List.getElem_cons_zero, List.getElem_cons_succ, List.setIfInBounds_toArray, List.set_cons_zero, List.set_cons_succ]
      refine wpAnyH_take (i := 2) (v := ?_) rfl (by kernel_rfl) (by kernel_rfl) (by kernel_rfl) (fun _ _ _ h => h) (Or.inl ⟨by rfl, ?_⟩) (sK _ LB0.out) ?_
      rotate_left
      · (intro wS hSw; (try dsimp only at hSw); go_simp; try with_reducible rfl)
      simp only [Act.put, List.getElem_toArray, List.getElem_cons_zero, List.getElem_cons_succ, List.setIfInBounds_toArray, List.set_cons_zero, List.set_cons_succ]
      refine wpAnyH_take (i := 3) (v := undef) rfl (by kernel_rfl) (by kernel_rfl) (by kernel_rfl) (fun _ _ _ h => h) (Or.inr ⟨by kernel_rfl, rfl⟩) (sK _ LB0.out) ?_
      simp only [Act.put, List.getElem_toArray, List.getElem_cons_zero, List.getElem_cons_succ, List.setIfInBounds_toArray, List.set_cons_zero, List.set_cons_succ]
      refine wpAnyH_take (i := 4) (v := undef) rfl (by kernel_rfl) (by kernel_rfl) (by kernel_rfl) (fun _ _ _ h => h) (Or.inr ⟨by kernel_rfl, rfl⟩) (sK _ LB0.out) ?_
      simp only [Act.put, List.getElem_toArray, List.getElem_cons_zero, List.getElem_cons_succ, List.setIfInBounds_toArray, List.set_cons_zero, List.set_cons_succ]
      refine wpAnyH_take (i := 5) (v := undef) rfl (by kernel_rfl) (by kernel_rfl) (by kernel_rfl) (fun _ _ _ h => h) (Or.inr ⟨by kernel_rfl, rfl⟩) (sK _ LB0.out) ?_
      simp only [Act.put, List.getElem_toArray, List.getElem_cons_zero, List.getElem_cons_succ, List.setIfInBounds_toArray, List.set_cons_zero, List.set_cons_succ]
      refine wpAnyH_take (i := 6) (v := undef) rfl (by kernel_rfl) (by kernel_rfl) (by kernel_rfl) (fun _ _ _ h => h) (Or.inr ⟨by kernel_rfl, rfl⟩) (sK _ LB0.out) ?_
      simp only [Act.put, List.getElem_toArray, List.getElem_cons_zero, List.getElem_cons_succ, List.setIfInBounds_toArray, List.set_cons_zero, List.set_cons_succ]
      refine wpAnyH_take (i := 7) (v := undef) rfl (by kernel_rfl) (by kernel_rfl) (by kernel_rfl) (fun _ _ _ h => h) (Or.inr ⟨by kernel_rfl, rfl⟩) (sK _ LB0.out) ?_
      simp only [Act.put, List.getElem_toArray, List.getElem_cons_zero, List.getElem_cons_succ, List.setIfInBounds_toArray, List.set_cons_zero, List.set_cons_succ]
      refine wpAnyH_take (i := 8) (v := undef) rfl (by kernel_rfl) (by kernel_rfl) (by kernel_rfl) (fun _ _ _ h => h) (Or.inr ⟨by kernel_rfl, rfl⟩) (sK _ LB0.out) ?_
      simp only [Act.put, List.getElem_toArray, List.getElem_cons_zero, List.getElem_cons_succ, List.setIfInBounds_toArray, List.set_cons_zero, List.set_cons_succ]
      refine wpAnyH_take (i := 9) (v := undef) rfl (by kernel_rfl) (by kernel_rfl) (by kernel_rfl) (fun _ _ _ h => h) (Or.inr ⟨by kernel_rfl, rfl⟩) (sK _ LB0.out) ?_
      simp only [Act.put, List.getElem_toArray, List.getElem_cons_zero, List.getElem_cons_succ, List.setIfInBounds_toArray, List.set_cons_zero, List.set_cons_succ]
      refine wpAnyH_take (i := 10) (v := ?_) rfl (by kernel_rfl) (by kernel_rfl) (by kernel_rfl) (fun _ _ _ h => h) (Or.inl ⟨by rfl, ?_⟩) (sK _ LB0.out) ?_
      rotate_left
      · (intro wS hSw; (try dsimp only at hSw); go_simp; try with_reducible rfl)
      simp only [Act.put, List.getElem_toArray, List.getElem_cons_zero, List.getElem_cons_succ, List.setIfInBounds_toArray, List.set_cons_zero, List.set_cons_succ]
      refine wpAnyH_done (by kernel_rfl) ?_ _
      have HRZ := Lib.hid (RdZ.kept HD.out E0.out)
      have esz := E0.out.size
      have HOK : Hid (0 < k → ltb (a, d, f) (eE L (k - 1)) = false) := Lib.hid (fun h => absurd h (by omega))
      have hki : (k : Int) ≤ (n : Int) := by omega
      have hkc : k ≤ c := by omega
      have hkci : (k : Int) ≤ (c : Int) := by omega
      have hnci : (n : Int) ≤ (c : Int) := by omega
      go_wp2_with (first
        | (at_builtin; refine append_ents rfl _ _ rfl wr.drew.heap.size (.slice none 0 0) 0 [] rfl ⟨rfl, Or.inl ⟨rfl, rfl⟩⟩ (some ⟨b, o, none⟩) k c (zE L) rfl (fun i hi => HRZ.out i (by omega)) (by omega) (fun e => by cases e) (by omega) (by simp) ?_; intro v1 w1 o1 q1; have F1 := Lib.hid (E0.out.trans (q1.mono esz)); have HB1 := Lib.hid (Blk.next (w := wr.drew) LB0.out q1); have s1 := q1.size; have b0 : w1.cell? ⟨w.heap.size, 0, none⟩ = some (.int .i64 a) := HB1.out.cell 0; have b1 : w1.cell? ⟨w.heap.size, 1, none⟩ = some (.int .i64 d) := HB1.out.cell 1; have b2 : w1.cell? ⟨w.heap.size, 2, none⟩ = some (.int .i64 f) := HB1.out.cell 2)
        | (at_builtin; refine append_ent rfl _ _ rfl wr.drew.heap.size v1 (0 + k) ([] ++ rowM 3 (zE L) k) rfl (ownM_below o1 ((Below.refl _ _).alloc (Nat.le_refl _) _)) w1.heap.size 1 a d f rfl (Blk.new w1 _ _) (by omega) (Nat.le_trans s1 (by simp)) ?_; intro v2 w2 o2 q2 _; have s2 := q2.size; have HRY := Lib.hid (rdZ_dropE k (RdZ.kept HRZ.out ((q1.trans ((Below.refl _ _).alloc s1 _)).trans q2))))
        | (at_builtin; refine append_ents rfl _ _ rfl wr.drew.heap.size v2 (0 + k + 1) ([] ++ rowM 3 (zE L) k ++ [.int .i64 a, .int .i64 d, .int .i64 f]) rfl o2 (some ⟨b, o + k * 3, none⟩) (n - k) (c - k) (fun i j => zE L (k + i) j) rfl HRY.out (by omega) (fun e => by cases e) (by omega) (Nat.le_trans s1 (Nat.le_trans (by simp) s2)) ?_; intro v3 w3 o3 q3)
        | (at_builtin; refine append_ents rfl _ _ rfl wr.drew.heap.size v2 (0 + k + 1) ([] ++ rowM 3 (zE L) k ++ [.int .i64 a, .int .i64 d, .int .i64 f]) rfl o2 (some ⟨b, o, none⟩) 0 0 (fun i j => zE L (k + i) j) rfl (fun i hi => absurd hi (Nat.not_lt_zero i)) (Nat.le_refl _) (fun e => by cases e) (by omega) (Nat.le_trans s1 (Nat.le_trans (by simp) s2)) ?_; intro v3 w3 o3 q3))
      all_goals rw [← HR.out]
      all_goals exact ⟨v3, k, rfl, by have := HN.out; omega, own_isE (by rw [← HN.out] at o3; exact own_put (by have := HN.out; omega) o3) (fun y hy => put_wf HX.out HW.out hy), fun j h1 h2 => HA.out j h1 (by have := HN.out; omega), HOK.out, F1.out.trans ((((Below.refl w1.heap.size w1).alloc (Nat.le_refl _) _).mono (by have := F1.out.size; omega)).trans ((q2.trans q3).mono (by have := E0.out.size; omega))), own_new o3 (by have := E0.out.size; omega)⟩
    · obtain ⟨j, hj⟩ : ∃ j, k - 1 = j := ⟨_, rfl⟩
      have hjk : Hid (k = j + 1) := Lib.hid (by omega)
      have hkp : (0 : Int) < (k : Int) := by omega
      have hkp2 : 0 < k := by omega
      have hwj : IntKind.i64.wrap ((k : Int) - 1) = (j : Int) := by rw [IntWalk.i64_in _ (by omega)]; omega
      have hjn : j < n := by omega
      have hjn2 : (j : Int) < (n : Int) := by omega
      have HJ := Lib.hid hj
      clear hj
      obtain ⟨_, _, e', _, hcell⟩ := rdZ_row HD.out (by omega) (by omega)
      cases e'
      have d0 : w.cell? ⟨b, o + j * 3, none⟩ = _ := hcell j 0 hjn (by omega)
      have d1 := hcell j 1 hjn (by omega)
      have d2 := hcell j 2 hjn (by omega)
      obtain ⟨p, hp⟩ : ∃ p, zE L j 0 = p := ⟨_, rfl⟩
      obtain ⟨q, hq⟩ : ∃ p, zE L j 1 = p := ⟨_, rfl⟩
      obtain ⟨s, hs⟩ : ∃ p, zE L j 2 = p := ⟨_, rfl⟩
      have HE : Hid (eE L j = (p, q, s)) := Lib.hid (by unfold eE; rw [hp, hq, hs])
      rw [hp] at d0
      rw [hq] at d1
      rw [hs] at d2
      have HP := Lib.hid (At.next (at3 d0 d1 d2) EE.out)
      clear hp hq hs d0 d1 d2 hcell
      rcases Bool.eq_false_or_eq_true (ltb (a, d, f) (p, q, s)) with hlt | hlt
      · have kB0 : wr.cell? ⟨w.heap.size, 0, none⟩ = some (.int .i64 a) := HB.out.cell 0
        have kB1 : wr.cell? ⟨w.heap.size, 1, none⟩ = some (.int .i64 d) := HB.out.cell 1
        have kB2 : wr.cell? ⟨w.heap.size, 2, none⟩ = some (.int .i64 f) := HB.out.cell 2
        have kP0 : wr.cell? ⟨b, o + j * 3, none⟩ = some (.int .i64 p) := HP.out 0 _ rfl
        have kP1 : wr.cell? ⟨b, o + j * 3 + 1, none⟩ = some (.int .i64 q) := HP.out 1 _ rfl
        have kP2 : wr.cell? ⟨b, o + j * 3 + 2, none⟩ = some (.int .i64 s) := HP.out 2 _ rfl
        go_wp2_with fail
        have sK : ∀ X, Blk X (w.heap.size) 24 #[.int .i64 a, .int .i64 d, .int .i64 f] → At X b (o + j * 3) #[.int .i64 p, .int .i64 q, .int .i64 s] → (fun X => X.cell? ⟨w.heap.size, 0, none⟩ = some (.int .i64 a) ∧ X.cell? ⟨w.heap.size, 1, none⟩ = some (.int .i64 d) ∧ X.cell? ⟨w.heap.size, 2, none⟩ = some (.int .i64 f) ∧ X.cell? ⟨b, o + j * 3, none⟩ = some (.int .i64 p) ∧ X.cell? ⟨b, o + j * 3 + 1, none⟩ = some (.int .i64 q) ∧ X.cell? ⟨b, o + j * 3 + 2, none⟩ = some (.int .i64 s)) X := fun X hB hP => ⟨hB.cell 0, hB.cell 1, hB.cell 2, hP 0 _ rfl, hP 1 _ rfl, hP 2 _ rfl⟩
        have LB0 := Lib.hid (HB.out.drew)
        have LP0 := Lib.hid (HP.out.drew)
        have E0 := Lib.hid (EE.out.drew)
        clear kB0 kB1 kB2 kP0 kP1 kP2
        refine wp_region_held_drew (S := (fun X => X.cell? ⟨w.heap.size, 0, none⟩ = some (.int .i64 a) ∧ X.cell? ⟨w.heap.size, 1, none⟩ = some (.int .i64 d) ∧ X.cell? ⟨w.heap.size, 2, none⟩ = some (.int .i64 f) ∧ X.cell? ⟨b, o + j * 3, none⟩ = some (.int .i64 p) ∧ X.cell? ⟨b, o + j * 3 + 1, none⟩ = some (.int .i64 q) ∧ X.cell? ⟨b, o + j * 3 + 2, none⟩ = some (.int .i64 s))) (by kernel_rfl) (sK _ LB0.out LP0.out) (fun hHeld => ?_)
        clear hHeld
        refine wpAnyH_take (i := 0) (v := ?_) rfl (by kernel_rfl) (by kernel_rfl) (by kernel_rfl) (fun _ _ _ h => h) (Or.inl ⟨by rfl, ?_⟩) (sK _ LB0.out LP0.out) ?_
        rotate_left
        · (intro wS hSw; (try dsimp only at hSw); go_simp; try with_reducible rfl)
        simp only [Act.put, List.getElem_toArray, List.getElem_cons_zero, List.getElem_cons_succ, List.setIfInBounds_toArray, List.set_cons_zero, List.set_cons_succ]
        refine wpAnyH_take (i := 1) (v := ?_) rfl (by kernel_rfl) (by kernel_rfl) (by kernel_rfl) (fun _ _ _ h => h) (Or.inl ⟨by rfl, ?_⟩) (sK _ LB0.out LP0.out) ?_
        rotate_left
        · (intro wS hSw; (try dsimp only at hSw); go_simp; try with_reducible rfl)
        simp only [Act.put, List.getElem_toArray, List.getElem_cons_zero, List.getElem_cons_succ, List.setIfInBounds_toArray, List.set_cons_zero, List.set_cons_succ]
        refine wpAnyH_take (i := 2) (v := ?_) rfl (by kernel_rfl) (by kernel_rfl) (by kernel_rfl) (fun _ _ _ h => h) (Or.inl ⟨by rfl, ?_⟩) (sK _ LB0.out LP0.out) ?_
        rotate_left
        · (intro wS hSw; (try dsimp only at hSw); go_simp; try with_reducible rfl)
        simp only [Act.put, List.getElem_toArray, List.getElem_cons_zero, List.getElem_cons_succ, List.setIfInBounds_toArray, List.set_cons_zero, List.set_cons_succ]
        refine wpAnyH_take (i := 3) (v := ?_) rfl (by kernel_rfl) (by kernel_rfl) (by kernel_rfl) (fun _ _ _ h => h) (Or.inl ⟨by rfl, ?_⟩) (sK _ LB0.out LP0.out) ?_
        rotate_left
        · (intro wS hSw; (try dsimp only at hSw); go_simp; try with_reducible rfl)
        simp only [Act.put, List.getElem_toArray, List.getElem_cons_zero, List.getElem_cons_succ, List.setIfInBounds_toArray, List.set_cons_zero, List.set_cons_succ]
        refine wpAnyH_take (i := 4) (v := ?_) rfl (by kernel_rfl) (by kernel_rfl) (by kernel_rfl) (fun _ _ _ h => h) (Or.inl ⟨by rfl, ?_⟩) (sK _ LB0.out LP0.out) ?_
        rotate_left
        · (intro wS hSw; (try dsimp only at hSw); go_simp; try with_reducible rfl)
        simp only [Act.put, List.getElem_toArray, List.getElem_cons_zero, List.getElem_cons_succ, List.setIfInBounds_toArray, List.set_cons_zero, List.set_cons_succ]
        refine wpAnyH_take (i := 5) (v := ?_) rfl (by kernel_rfl) (by kernel_rfl) (by kernel_rfl) (fun _ _ _ h => h) (Or.inl ⟨by rfl, ?_⟩) (sK _ LB0.out LP0.out) ?_
        rotate_left
        · (intro wS hSw; (try dsimp only at hSw); go_simp; try with_reducible rfl)
        simp only [Act.put, List.getElem_toArray, List.getElem_cons_zero, List.getElem_cons_succ, List.setIfInBounds_toArray, List.set_cons_zero, List.set_cons_succ]
        refine wpAnyH_take (i := 6) (v := ?_) rfl (by kernel_rfl) (by kernel_rfl) (by kernel_rfl) (fun _ _ _ h => h) (Or.inl ⟨by rfl, ?_⟩) (sK _ LB0.out LP0.out) ?_
        rotate_left
        · (intro wS hSw; (try dsimp only at hSw); go_simp; try with_reducible rfl)
        simp only [Act.put, List.getElem_toArray, List.getElem_cons_zero, List.getElem_cons_succ, List.setIfInBounds_toArray, List.set_cons_zero, List.set_cons_succ]
        refine wpAnyH_take (i := 7) (v := ?_) rfl (by kernel_rfl) (by kernel_rfl) (by kernel_rfl) (fun _ _ _ h => h) (Or.inl ⟨by rfl, ?_⟩) (sK _ LB0.out LP0.out) ?_
        rotate_left
        · (intro wS hSw; (try dsimp only at hSw); go_simp; try with_reducible rfl)
        simp only [Act.put, List.getElem_toArray, List.getElem_cons_zero, List.getElem_cons_succ, List.setIfInBounds_toArray, List.set_cons_zero, List.set_cons_succ]
        refine wpAnyH_take (i := 8) (v := ?_) rfl (by kernel_rfl) (by kernel_rfl) (by kernel_rfl) (fun _ _ _ h => h) (Or.inl ⟨by rfl, ?_⟩) (sK _ LB0.out LP0.out) ?_
        rotate_left
        · (intro wS hSw; (try dsimp only at hSw); go_simp; try with_reducible rfl)
        simp only [Act.put, List.getElem_toArray, List.getElem_cons_zero, List.getElem_cons_succ, List.setIfInBounds_toArray, List.set_cons_zero, List.set_cons_succ]
        refine wpAnyH_ready (rs := [9]) (by kernel_rfl) (by simp) ?_
        refine AllReadyH.cons rfl (fun K hK => ?_) AllReadyH.nil
        go_simp
        refine (dless_any (a, d, f) (p, q, s) _).mono ?_
        rintro e r1 ⟨rfl, hb⟩
        have LB1 := Lib.hid (Blk.next (w := wr.drew) LB0.out hb)
        have LP1 := Lib.hid (At.next (w := wr.drew) LP0.out hb)
        have E1 := Lib.hid (E0.out.trans (hb.mono E0.out.size))
        rw [hlt]
        clear hb
        go_wp2_with fail
        refine hK.out _ _ (sK _ LB1.out LP1.out) (fun hHeld => ?_)
        clear hK K hHeld
        try simp only [Act.put, List.getElem_toArray, List.getElem_cons_zero, List.getElem_cons_succ, List.setIfInBounds_toArray, List.set_cons_zero, List.set_cons_succ]
        refine wpAnyH_take (i := 10) (v := ?_) rfl (by kernel_rfl) (by kernel_rfl) (by kernel_rfl) (fun _ _ _ h => h) (Or.inl ⟨by rfl, ?_⟩) (sK _ LB1.out LP1.out) ?_
        rotate_left
        · (intro wS hSw; (try dsimp only at hSw); go_simp; try with_reducible rfl)
        simp only [Act.put, List.getElem_toArray, List.getElem_cons_zero, List.getElem_cons_succ, List.setIfInBounds_toArray, List.set_cons_zero, List.set_cons_succ]
        refine wpAnyH_done (by kernel_rfl) ?_ _
        go_wp2_with fail
        go_roundw
        case rel => exact ⟨j, by omega, rfl, Lib.hid (fun i h1 h2 => by
          by_cases e : i = j
          · subst e; rw [HE.out]; exact hlt
          · exact HA.out i (by have := hjk.out; omega) h2), LB1, E1⟩
        case measure => have := hjk.out; simp [intOf]; omega
      · have kB0 : wr.cell? ⟨w.heap.size, 0, none⟩ = some (.int .i64 a) := HB.out.cell 0
        have kB1 : wr.cell? ⟨w.heap.size, 1, none⟩ = some (.int .i64 d) := HB.out.cell 1
        have kB2 : wr.cell? ⟨w.heap.size, 2, none⟩ = some (.int .i64 f) := HB.out.cell 2
        have kP0 : wr.cell? ⟨b, o + j * 3, none⟩ = some (.int .i64 p) := HP.out 0 _ rfl
        have kP1 : wr.cell? ⟨b, o + j * 3 + 1, none⟩ = some (.int .i64 q) := HP.out 1 _ rfl
        have kP2 : wr.cell? ⟨b, o + j * 3 + 2, none⟩ = some (.int .i64 s) := HP.out 2 _ rfl
        go_wp2_with fail
        have sK : ∀ X, Blk X (w.heap.size) 24 #[.int .i64 a, .int .i64 d, .int .i64 f] → At X b (o + j * 3) #[.int .i64 p, .int .i64 q, .int .i64 s] → (fun X => X.cell? ⟨w.heap.size, 0, none⟩ = some (.int .i64 a) ∧ X.cell? ⟨w.heap.size, 1, none⟩ = some (.int .i64 d) ∧ X.cell? ⟨w.heap.size, 2, none⟩ = some (.int .i64 f) ∧ X.cell? ⟨b, o + j * 3, none⟩ = some (.int .i64 p) ∧ X.cell? ⟨b, o + j * 3 + 1, none⟩ = some (.int .i64 q) ∧ X.cell? ⟨b, o + j * 3 + 2, none⟩ = some (.int .i64 s)) X := fun X hB hP => ⟨hB.cell 0, hB.cell 1, hB.cell 2, hP 0 _ rfl, hP 1 _ rfl, hP 2 _ rfl⟩
        have LB0 := Lib.hid (HB.out.drew)
        have LP0 := Lib.hid (HP.out.drew)
        have E0 := Lib.hid (EE.out.drew)
        clear kB0 kB1 kB2 kP0 kP1 kP2
        refine wp_region_held_drew (S := (fun X => X.cell? ⟨w.heap.size, 0, none⟩ = some (.int .i64 a) ∧ X.cell? ⟨w.heap.size, 1, none⟩ = some (.int .i64 d) ∧ X.cell? ⟨w.heap.size, 2, none⟩ = some (.int .i64 f) ∧ X.cell? ⟨b, o + j * 3, none⟩ = some (.int .i64 p) ∧ X.cell? ⟨b, o + j * 3 + 1, none⟩ = some (.int .i64 q) ∧ X.cell? ⟨b, o + j * 3 + 2, none⟩ = some (.int .i64 s))) (by kernel_rfl) (sK _ LB0.out LP0.out) (fun hHeld => ?_)
        clear hHeld
        refine wpAnyH_take (i := 0) (v := ?_) rfl (by kernel_rfl) (by kernel_rfl) (by kernel_rfl) (fun _ _ _ h => h) (Or.inl ⟨by rfl, ?_⟩) (sK _ LB0.out LP0.out) ?_
        rotate_left
        · (intro wS hSw; (try dsimp only at hSw); go_simp; try with_reducible rfl)
        simp only [Act.put, List.getElem_toArray, List.getElem_cons_zero, List.getElem_cons_succ, List.setIfInBounds_toArray, List.set_cons_zero, List.set_cons_succ]
        refine wpAnyH_take (i := 1) (v := ?_) rfl (by kernel_rfl) (by kernel_rfl) (by kernel_rfl) (fun _ _ _ h => h) (Or.inl ⟨by rfl, ?_⟩) (sK _ LB0.out LP0.out) ?_
        rotate_left
        · (intro wS hSw; (try dsimp only at hSw); go_simp; try with_reducible rfl)
        simp only [Act.put, List.getElem_toArray, List.getElem_cons_zero, List.getElem_cons_succ, List.setIfInBounds_toArray, List.set_cons_zero, List.set_cons_succ]
        refine wpAnyH_take (i := 2) (v := ?_) rfl (by kernel_rfl) (by kernel_rfl) (by kernel_rfl) (fun _ _ _ h => h) (Or.inl ⟨by rfl, ?_⟩) (sK _ LB0.out LP0.out) ?_
        rotate_left
        · (intro wS hSw; (try dsimp only at hSw); go_simp; try with_reducible rfl)
        simp only [Act.put, List.getElem_toArray, List.getElem_cons_zero, List.getElem_cons_succ, List.setIfInBounds_toArray, List.set_cons_zero, List.set_cons_succ]
        refine wpAnyH_take (i := 3) (v := ?_) rfl (by kernel_rfl) (by kernel_rfl) (by kernel_rfl) (fun _ _ _ h => h) (Or.inl ⟨by rfl, ?_⟩) (sK _ LB0.out LP0.out) ?_
        rotate_left
        · (intro wS hSw; (try dsimp only at hSw); go_simp; try with_reducible rfl)
        simp only [Act.put, List.getElem_toArray, List.getElem_cons_zero, List.getElem_cons_succ, List.setIfInBounds_toArray, List.set_cons_zero, List.set_cons_succ]
        refine wpAnyH_take (i := 4) (v := ?_) rfl (by kernel_rfl) (by kernel_rfl) (by kernel_rfl) (fun _ _ _ h => h) (Or.inl ⟨by rfl, ?_⟩) (sK _ LB0.out LP0.out) ?_
        rotate_left
        · (intro wS hSw; (try dsimp only at hSw); go_simp; try with_reducible rfl)
        simp only [Act.put, List.getElem_toArray, List.getElem_cons_zero, List.getElem_cons_succ, List.setIfInBounds_toArray, List.set_cons_zero, List.set_cons_succ]
        refine wpAnyH_take (i := 5) (v := ?_) rfl (by kernel_rfl) (by kernel_rfl) (by kernel_rfl) (fun _ _ _ h => h) (Or.inl ⟨by rfl, ?_⟩) (sK _ LB0.out LP0.out) ?_
        rotate_left
        · (intro wS hSw; (try dsimp only at hSw); go_simp; try with_reducible rfl)
        simp only [Act.put, List.getElem_toArray, List.getElem_cons_zero, List.getElem_cons_succ, List.setIfInBounds_toArray, List.set_cons_zero, List.set_cons_succ]
        refine wpAnyH_take (i := 6) (v := ?_) rfl (by kernel_rfl) (by kernel_rfl) (by kernel_rfl) (fun _ _ _ h => h) (Or.inl ⟨by rfl, ?_⟩) (sK _ LB0.out LP0.out) ?_
        rotate_left
        · (intro wS hSw; (try dsimp only at hSw); go_simp; try with_reducible rfl)
        simp only [Act.put, List.getElem_toArray, List.getElem_cons_zero, List.getElem_cons_succ, List.setIfInBounds_toArray, List.set_cons_zero, List.set_cons_succ]
        refine wpAnyH_take (i := 7) (v := ?_) rfl (by kernel_rfl) (by kernel_rfl) (by kernel_rfl) (fun _ _ _ h => h) (Or.inl ⟨by rfl, ?_⟩) (sK _ LB0.out LP0.out) ?_
        rotate_left
        · (intro wS hSw; (try dsimp only at hSw); go_simp; try with_reducible rfl)
        simp only [Act.put, List.getElem_toArray, List.getElem_cons_zero, List.getElem_cons_succ, List.setIfInBounds_toArray, List.set_cons_zero, List.set_cons_succ]
        refine wpAnyH_take (i := 8) (v := ?_) rfl (by kernel_rfl) (by kernel_rfl) (by kernel_rfl) (fun _ _ _ h => h) (Or.inl ⟨by rfl, ?_⟩) (sK _ LB0.out LP0.out) ?_
        rotate_left
        · (intro wS hSw; (try dsimp only at hSw); go_simp; try with_reducible rfl)
        simp only [Act.put, List.getElem_toArray, List.getElem_cons_zero, List.getElem_cons_succ, List.setIfInBounds_toArray, List.set_cons_zero, List.set_cons_succ]
        refine wpAnyH_ready (rs := [9]) (by kernel_rfl) (by simp) ?_
        refine AllReadyH.cons rfl (fun K hK => ?_) AllReadyH.nil
        go_simp
        refine (dless_any (a, d, f) (p, q, s) _).mono ?_
        rintro e r1 ⟨rfl, hb⟩
        have LB1 := Lib.hid (Blk.next (w := wr.drew) LB0.out hb)
        have LP1 := Lib.hid (At.next (w := wr.drew) LP0.out hb)
        have E1 := Lib.hid (E0.out.trans (hb.mono E0.out.size))
        rw [hlt]
        clear hb
        go_wp2_with fail
        refine hK.out _ _ (sK _ LB1.out LP1.out) (fun hHeld => ?_)
        clear hK K hHeld
        try simp only [Act.put, List.getElem_toArray, List.getElem_cons_zero, List.getElem_cons_succ, List.setIfInBounds_toArray, List.set_cons_zero, List.set_cons_succ]
        refine wpAnyH_take (i := 10) (v := ?_) rfl (by kernel_rfl) (by kernel_rfl) (by kernel_rfl) (fun _ _ _ h => h) (Or.inl ⟨by rfl, ?_⟩) (sK _ LB1.out LP1.out) ?_
        rotate_left
        · (intro wS hSw; (try dsimp only at hSw); go_simp; try with_reducible rfl)
        simp only [Act.put, List.getElem_toArray, List.getElem_cons_zero, List.getElem_cons_succ, List.setIfInBounds_toArray, List.set_cons_zero, List.set_cons_succ]
        refine wpAnyH_done (by kernel_rfl) ?_ _
        by_cases hkc0 : k < c
        · have hkc3 : (k : Int) < (c : Int) := by omega
          have HRZ := Lib.hid (RdZ.kept HD.out E1.out)
          have esz := E1.out.size
          have HOK : Hid (0 < k → ltb (a, d, f) (eE L (k - 1)) = false) := Lib.hid (fun _ => by rw [HJ.out, HE.out]; exact hlt)
          have hki : (k : Int) ≤ (n : Int) := by omega
          have hkc : k ≤ c := by omega
          have hkci : (k : Int) ≤ (c : Int) := by omega
          have hnci : (n : Int) ≤ (c : Int) := by omega
          go_wp2_with (first
            | (at_builtin; refine append_ents rfl _ _ rfl r1.heap.size (.slice none 0 0) 0 [] rfl ⟨rfl, Or.inl ⟨rfl, rfl⟩⟩ (some ⟨b, o, none⟩) k c (zE L) rfl (fun i hi => HRZ.out i (by omega)) (by omega) (fun e => by cases e) (by omega) (by simp) ?_; intro v1 w1 o1 q1; have F1 := Lib.hid (E1.out.trans (q1.mono esz)); have HB1 := Lib.hid (Blk.next (w := r1) LB1.out q1); have s1 := q1.size; have b0 : w1.cell? ⟨w.heap.size, 0, none⟩ = some (.int .i64 a) := HB1.out.cell 0; have b1 : w1.cell? ⟨w.heap.size, 1, none⟩ = some (.int .i64 d) := HB1.out.cell 1; have b2 : w1.cell? ⟨w.heap.size, 2, none⟩ = some (.int .i64 f) := HB1.out.cell 2)
            | (at_builtin; refine append_ent rfl _ _ rfl r1.heap.size v1 (0 + k) ([] ++ rowM 3 (zE L) k) rfl (ownM_below o1 ((Below.refl _ _).alloc (Nat.le_refl _) _)) w1.heap.size 1 a d f rfl (Blk.new w1 _ _) (by omega) (Nat.le_trans s1 (by simp)) ?_; intro v2 w2 o2 q2 _; have s2 := q2.size; have HRY := Lib.hid (rdZ_dropE k (RdZ.kept HRZ.out ((q1.trans ((Below.refl _ _).alloc s1 _)).trans q2))))
            | (at_builtin; refine append_ents rfl _ _ rfl r1.heap.size v2 (0 + k + 1) ([] ++ rowM 3 (zE L) k ++ [.int .i64 a, .int .i64 d, .int .i64 f]) rfl o2 (some ⟨b, o + k * 3, none⟩) (n - k) (c - k) (fun i j => zE L (k + i) j) rfl HRY.out (by omega) (fun e => by cases e) (by omega) (Nat.le_trans s1 (Nat.le_trans (by simp) s2)) ?_; intro v3 w3 o3 q3)
            | (at_builtin; refine append_ents rfl _ _ rfl r1.heap.size v2 (0 + k + 1) ([] ++ rowM 3 (zE L) k ++ [.int .i64 a, .int .i64 d, .int .i64 f]) rfl o2 (some ⟨b, o, none⟩) 0 0 (fun i j => zE L (k + i) j) rfl (fun i hi => absurd hi (Nat.not_lt_zero i)) (Nat.le_refl _) (fun e => by cases e) (by omega) (Nat.le_trans s1 (Nat.le_trans (by simp) s2)) ?_; intro v3 w3 o3 q3))
          all_goals rw [← HR.out]
          all_goals exact ⟨v3, k, rfl, by have := HN.out; omega, own_isE (by rw [← HN.out] at o3; exact own_put (by have := HN.out; omega) o3) (fun y hy => put_wf HX.out HW.out hy), fun j h1 h2 => HA.out j h1 (by have := HN.out; omega), HOK.out, F1.out.trans ((((Below.refl w1.heap.size w1).alloc (Nat.le_refl _) _).mono (by have := F1.out.size; omega)).trans ((q2.trans q3).mono (by have := E1.out.size; omega))), own_new o3 (by have := E1.out.size; omega)⟩
        · obtain rfl : k = c := by omega
          obtain rfl : k = n := by omega
          have hnn : k - k = 0 := Nat.sub_self k
          have HRZ := Lib.hid (RdZ.kept HD.out E1.out)
          have esz := E1.out.size
          have HOK : Hid (0 < k → ltb (a, d, f) (eE L (k - 1)) = false) := Lib.hid (fun _ => by rw [HJ.out, HE.out]; exact hlt)
          have hki : (k : Int) ≤ (k : Int) := by omega
          have hkc : k ≤ k := by omega
          have hkci : (k : Int) ≤ (k : Int) := by omega
          have hnci : (k : Int) ≤ (k : Int) := by omega
          go_wp2_with (first
            | (at_builtin; refine append_ents rfl _ _ rfl r1.heap.size (.slice none 0 0) 0 [] rfl ⟨rfl, Or.inl ⟨rfl, rfl⟩⟩ (some ⟨b, o, none⟩) k k (zE L) rfl (fun i hi => HRZ.out i (by omega)) (by omega) (fun e => by cases e) (by omega) (by simp) ?_; intro v1 w1 o1 q1; have F1 := Lib.hid (E1.out.trans (q1.mono esz)); have HB1 := Lib.hid (Blk.next (w := r1) LB1.out q1); have s1 := q1.size; have b0 : w1.cell? ⟨w.heap.size, 0, none⟩ = some (.int .i64 a) := HB1.out.cell 0; have b1 : w1.cell? ⟨w.heap.size, 1, none⟩ = some (.int .i64 d) := HB1.out.cell 1; have b2 : w1.cell? ⟨w.heap.size, 2, none⟩ = some (.int .i64 f) := HB1.out.cell 2)
            | (at_builtin; refine append_ent rfl _ _ rfl r1.heap.size v1 (0 + k) ([] ++ rowM 3 (zE L) k) rfl (ownM_below o1 ((Below.refl _ _).alloc (Nat.le_refl _) _)) w1.heap.size 1 a d f rfl (Blk.new w1 _ _) (by omega) (Nat.le_trans s1 (by simp)) ?_; intro v2 w2 o2 q2 _; have s2 := q2.size; have HRY := Lib.hid (rdZ_dropE k (RdZ.kept HRZ.out ((q1.trans ((Below.refl _ _).alloc s1 _)).trans q2))))
            | (at_builtin; refine append_ents rfl _ _ rfl r1.heap.size v2 (0 + k + 1) ([] ++ rowM 3 (zE L) k ++ [.int .i64 a, .int .i64 d, .int .i64 f]) rfl o2 (some ⟨b, o + k * 3, none⟩) (k - k) (k - k) (fun i j => zE L (k + i) j) rfl HRY.out (by omega) (fun e => by cases e) (by omega) (Nat.le_trans s1 (Nat.le_trans (by simp) s2)) ?_; intro v3 w3 o3 q3)
            | (at_builtin; refine append_ents rfl _ _ rfl r1.heap.size v2 (0 + k + 1) ([] ++ rowM 3 (zE L) k ++ [.int .i64 a, .int .i64 d, .int .i64 f]) rfl o2 (some ⟨b, o, none⟩) 0 0 (fun i j => zE L (k + i) j) rfl (fun i hi => absurd hi (Nat.not_lt_zero i)) (Nat.le_refl _) (fun e => by cases e) (by omega) (Nat.le_trans s1 (Nat.le_trans (by simp) s2)) ?_; intro v3 w3 o3 q3))
          all_goals rw [← HR.out]
          all_goals exact ⟨v3, k, rfl, by have := HN.out; omega, own_isE (own_put (by have := HN.out; omega) (by rw [show L.length - k = 0 by have := HN.out; omega]; exact o3)) (fun y hy => put_wf HX.out HW.out hy), fun j h1 h2 => HA.out j h1 (by have := HN.out; omega), HOK.out, F1.out.trans ((((Below.refl w1.heap.size w1).alloc (Nat.le_refl _) _).mono (by have := F1.out.size; omega)).trans ((q2.trans q3).mono (by have := E1.out.size; omega))), own_new o3 (by have := E1.out.size; omega)⟩
end Go.Proofs.Ytobeppajomhfjaa
