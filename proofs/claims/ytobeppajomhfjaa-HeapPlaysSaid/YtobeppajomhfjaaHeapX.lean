/- The law's step of heaps: Until. -/
import Derived.Test.YtobeppajomhfjaaHeapV
import Derived.WalkKit
import Derived.IntWalk
import Derived.Lib.Hide
import Derived.WalkSpells
import Derived.WalkLawsBesides
import Derived.OwnWalk
import Derived.BigRegion
import Derived.Deep.LoopGhost
import Derived.Deep.RegionHeld3
import Derived.Deep.QuietTactic
import Derived.BigQuiet
import Derived.Laws.CopyOwn
import Derived.Laws.MakeOwn
import Derived.Laws.OwnMore
import Derived.Laws.AppendOwnNone
namespace Go.Proofs.Ytobeppajomhfjaa
open Go.RowKit
set_option linter.unusedVariables false
set_option linter.unusedSimpArgs false
theorem unt_unique {M : List Ent} {t : Int} {k j : Nat} (h1 : k ≤ M.length) (h2 : ∀ i, i < k → (eE M i).1 ≤ t) (h3 : k < M.length → t < (eE M k).1) (g1 : j ≤ M.length) (g2 : ∀ i, i < j → (eE M i).1 ≤ t) (g3 : j < M.length → t < (eE M j).1) : k = j := by
  rcases Nat.lt_trichotomy k j with h | h | h
  · have := g2 k h; have := h3 (by omega); omega
  · exact h
  · have := h2 j h; have := g3 (by omega); omega
theorem isE_take {w : World} {A : Option Addr} {n c k : Nat} {M : List Ent} (h : IsE w (.slice A n c) M) (hk : k ≤ n) : IsE w (.slice A k c) (M.take k) := by
  obtain ⟨A', c', e, hr, h1, h2, h3⟩ := h
  simp only [Value.slice.injEq] at e
  obtain ⟨rfl, rfl, rfl⟩ := e
  have hl : (M.take k).length = k := by rw [List.length_take]; omega
  refine ⟨_, _, by rw [hl], ?_, by rw [hl]; omega, h2, h3⟩
  rw [hl]
  intro i hi
  obtain ⟨a, e, hlt, hc⟩ := hr i (by omega)
  refine ⟨a, e, hlt, fun j hj => ?_⟩
  have e2 : zE (M.take k) i j = zE M i j := by unfold zE; rw [List.getD_eq_getElem?_getD, List.getD_eq_getElem?_getD, List.getElem?_take_of_lt hi]
  rw [e2]; exact hc j hj
theorem isE_len {w : World} {A : Option Addr} {n c : Nat} {M : List Ent} (h : IsE w (.slice A n c) M) : M.length = n ∧ n ≤ c ∧ c ≤ maxLen ∧ (A = none → c = 0) := by
  obtain ⟨A', c', e, hr, h1, h2, h3⟩ := h
  simp only [Value.slice.injEq] at e
  obtain ⟨rfl, rfl, rfl⟩ := e
  exact ⟨rfl, h1, h2, h3⟩
theorem isE_rd {w : World} {A : Option Addr} {n c : Nat} {M : List Ent} (h : IsE w (.slice A n c) M) : RdZ w 3 A n (zE M) := by
  obtain ⟨A', c', e, hr, h1, h2, h3⟩ := h
  simp only [Value.slice.injEq] at e
  obtain ⟨rfl, rfl, rfl⟩ := e
  exact hr
set_option maxRecDepth 100000 in
set_option maxHeartbeats 40000000 in
theorem step_until {B g : Nat} {v lv : Value} {X M : List Ent} {kind t d f m : Int} {w : World} (hst : StP B w g v X lv M) (hl : M.length ≤ 500) (h0 : 0 ≤ kind) (hkm : kind % 6 = m) (hm : m = 5) (hx : WfE (t, d, f)) (hkw : (Lit.int .i64 kind).wf = true) :
    Calls Try.prog 13 #[.pointer (some ⟨g, 0, none⟩), lv, .agg #[.int .i64 kind, .int .i64 t, .int .i64 d, .int .i64 f]] w (StepR B g v M w) := by
  obtain ⟨hk1, hk2⟩ := bounds_i64 hkw
  have hr1 : IntKind.i64.wrap (Int.tmod kind 6) = m := by rw [Int.tmod_eq_emod_of_nonneg h0, hkm]; exact IntWalk.i64_in _ (by omega)
  have hr2 : wrap64 (kind % 6) = m := by rw [hkm]; exact IntWalk.wrap64_in _ (by omega)
  have ST0 := Lib.hid (hst.none ((Fr.refl _ w).alloc (.cells #[.int .i64 kind, .int .i64 t, .int .i64 d, .int .i64 f] 35)))
  have BO := Blk.new w #[.int .i64 kind, .int .i64 t, .int .i64 d, .int .i64 f] 35
  have HBO := Lib.hid BO
  have EE : Hid (Below w.heap.size w (w.alloc (.cells #[.int .i64 kind, .int .i64 t, .int .i64 d, .int .i64 f] 35))) := Lib.hid ((Below.refl w.heap.size w).alloc (Nat.le_refl _) _)
  have c0 := BO.cell 0
  have c1 := BO.cell 1
  have c2 := BO.cell 2
  have c3 := BO.cell 3
  have hgl := hst.1.1.lt
  have HVL : Hid (∀ i, v.ownBlock = some i → i < w.heap.size) := Lib.hid (fun i hi => (hst.1.2.2.2.1.lt i hi).2)
  have HM := Lib.hid hl; have HX := Lib.hid hx
  have hbn : ¬ hpS g v w.heap.size := fun h => h.elim (fun e => by omega) (fun e => absurd (HVL.out _ e) (by omega))
  have HBN := Lib.hid hbn
  have HST := Lib.hid hst
  subst hm
  obtain ⟨A, c, hlv, _⟩ := hst.2.2.2.1
  subst hlv
  obtain ⟨n, hn⟩ : ∃ n, M.length = n := ⟨_, rfl⟩
  have HMN := Lib.hid hn
  rw [hn] at hst ST0 hl HST ⊢
  obtain ⟨_, hnc, hcm, hnone⟩ := isE_len hst.2.2.2.1
  have HD := Lib.hid (isE_rd hst.2.2.2.1)
  have hnci : (n : Int) ≤ (c : Int) := by omega
  have HAW : Hid (0 < n → ∃ b0 o0, A = some ⟨b0, o0, none⟩) := Lib.hid (fun h => by obtain ⟨b, o, e, _⟩ := rdZ_row HD.out (by omega) h; exact ⟨b, o, e⟩)
  clear hn
  clear hst hl BO hbn hx hk1 hk2 hkw hr1 hr2
  go_enter Try.func13, Try.ntmps13
  go_wp2_with fail
  go_loopw [10] (fun i wr => ∃ k : Nat, k ≤ n ∧ i = .int .i64 k ∧ Hid (∀ j, j < k → (eE M j).1 ≤ t) ∧ Hid (Blk wr w.heap.size 35 #[.int .i64 kind, .int .i64 t, .int .i64 d, .int .i64 f]) ∧ Hid (Below w.heap.size w wr)) (fun i _ => n - (intOf i).toNat)
  case atStart => exact ⟨0, Nat.zero_le _, rfl, Lib.hid (fun i hi => absurd hi (Nat.not_lt_zero _)), HBO, EE⟩
  case round =>
    clear HBO EE c0 c1 c2 c3
    obtain ⟨k, hk, rfl, HLE, HB, EE⟩ := hrel
    have hl5 : n ≤ 500 := by have := HM.out; have := HMN.out; omega
    by_cases hkn : k < n
    · have hkni0 : (k : Int) < (n : Int) := by omega
      have hod : decide ((k : Int) < (n : Int)) = true := decide_eq_true hkni0
      have hod2 : decide (k < n) = true := decide_eq_true hkn
      obtain ⟨b, o, hAb, hlt, hcell⟩ := rdZ_row HD.out (by omega) (by omega)
      have e0 := hcell k 0 hkn (by omega)
      obtain ⟨tk, htk⟩ : ∃ x, zE M k 0 = x := ⟨_, rfl⟩
      rw [htk] at e0
      have HTK := Lib.hid htk
      have HA := Lib.hid (At.next (at1 e0) EE.out)
      clear htk e0 hcell
      have HAB := Lib.hid hAb
      subst hAb
      by_cases htt : tk ≤ t
      · have hdt : decide (tk ≤ t) = true := decide_eq_true htt
        have kB0 : wr.cell? ⟨w.heap.size, 0, none⟩ = some (.int .i64 kind) := HB.out.cell 0
        have kB1 : wr.cell? ⟨w.heap.size, 1, none⟩ = some (.int .i64 t) := HB.out.cell 1
        have kB2 : wr.cell? ⟨w.heap.size, 2, none⟩ = some (.int .i64 d) := HB.out.cell 2
        have kB3 : wr.cell? ⟨w.heap.size, 3, none⟩ = some (.int .i64 f) := HB.out.cell 3
        have kA0 : wr.cell? ⟨b, o + k * 3, none⟩ = some (.int .i64 tk) := HA.out 0 _ rfl
        go_wp2_with fail
        have sK : ∀ X, Blk X (w.heap.size) 35 #[.int .i64 kind, .int .i64 t, .int .i64 d, .int .i64 f] → At X b (o + k * 3) #[.int .i64 tk] → (fun X => X.cell? ⟨w.heap.size, 0, none⟩ = some (.int .i64 kind) ∧ X.cell? ⟨w.heap.size, 1, none⟩ = some (.int .i64 t) ∧ X.cell? ⟨w.heap.size, 2, none⟩ = some (.int .i64 d) ∧ X.cell? ⟨w.heap.size, 3, none⟩ = some (.int .i64 f) ∧ X.cell? ⟨b, o + k * 3, none⟩ = some (.int .i64 tk)) X := fun X hB hA => ⟨hB.cell 0, hB.cell 1, hB.cell 2, hB.cell 3, hA 0 _ rfl⟩
        have LB0 := Lib.hid (HB.out.drew)
        have LA0 := Lib.hid (HA.out.drew)
        have E0 := Lib.hid (EE.out.drew)
        clear kB0 kB1 kB2 kB3 kA0
        refine wp_region_held_drew (S := (fun X => X.cell? ⟨w.heap.size, 0, none⟩ = some (.int .i64 kind) ∧ X.cell? ⟨w.heap.size, 1, none⟩ = some (.int .i64 t) ∧ X.cell? ⟨w.heap.size, 2, none⟩ = some (.int .i64 d) ∧ X.cell? ⟨w.heap.size, 3, none⟩ = some (.int .i64 f) ∧ X.cell? ⟨b, o + k * 3, none⟩ = some (.int .i64 tk))) (by kernel_rfl) (sK _ LB0.out LA0.out) (fun hHeld => ?_)
        clear hHeld
        refine wpAnyH_take (i := 0) (v := ?_) rfl (by kernel_rfl) (by kernel_rfl) (by kernel_rfl) (fun _ _ _ h => h) (Or.inl ⟨by rfl, ?_⟩) (sK _ LB0.out LA0.out) ?_
        rotate_left
        · (intro wS hSw; (try dsimp only at hSw); go_simp; try with_reducible rfl)
        simp only [Act.put, List.getElem_toArray, List.getElem_cons_zero, List.getElem_cons_succ, List.setIfInBounds_toArray, List.set_cons_zero, List.set_cons_succ]
        refine wpAnyH_take (i := 1) (v := ?_) rfl (by kernel_rfl) (by kernel_rfl) (by kernel_rfl) (fun _ _ _ h => h) (Or.inl ⟨by rfl, ?_⟩) (sK _ LB0.out LA0.out) ?_
        rotate_left
        · (intro wS hSw; (try dsimp only at hSw); go_simp; try with_reducible rfl)
        simp only [Act.put, List.getElem_toArray, List.getElem_cons_zero, List.getElem_cons_succ, List.setIfInBounds_toArray, List.set_cons_zero, List.set_cons_succ]
        refine wpAnyH_take (i := 2) (v := ?_) rfl (by kernel_rfl) (by kernel_rfl) (by kernel_rfl) (fun _ _ _ h => h) (Or.inl ⟨by rfl, ?_⟩) (sK _ LB0.out LA0.out) ?_
        rotate_left
        · (intro wS hSw; (try dsimp only at hSw); go_simp; try with_reducible rfl)
        simp only [Act.put, List.getElem_toArray, List.getElem_cons_zero, List.getElem_cons_succ, List.setIfInBounds_toArray, List.set_cons_zero, List.set_cons_succ]
        refine wpAnyH_take (i := 3) (v := ?_) rfl (by kernel_rfl) (by kernel_rfl) (by kernel_rfl) (fun _ _ _ h => h) (Or.inl ⟨by rfl, ?_⟩) (sK _ LB0.out LA0.out) ?_
        rotate_left
        · (intro wS hSw; (try dsimp only at hSw); go_simp; try with_reducible rfl)
        simp only [Act.put, List.getElem_toArray, List.getElem_cons_zero, List.getElem_cons_succ, List.setIfInBounds_toArray, List.set_cons_zero, List.set_cons_succ]
        refine wpAnyH_take (i := 4) (v := ?_) rfl (by kernel_rfl) (by kernel_rfl) (by kernel_rfl) (fun _ _ _ h => h) (Or.inl ⟨by rfl, ?_⟩) (sK _ LB0.out LA0.out) ?_
        rotate_left
        · (intro wS hSw; (try dsimp only at hSw); go_simp; try with_reducible rfl)
        simp only [Act.put, List.getElem_toArray, List.getElem_cons_zero, List.getElem_cons_succ, List.setIfInBounds_toArray, List.set_cons_zero, List.set_cons_succ]
        refine wpAnyH_take (i := 5) (v := ?_) rfl (by kernel_rfl) (by kernel_rfl) (by kernel_rfl) (fun _ _ _ h => h) (Or.inl ⟨by rfl, ?_⟩) (sK _ LB0.out LA0.out) ?_
        rotate_left
        · (intro wS hSw; (try dsimp only at hSw); go_simp; try with_reducible rfl)
        simp only [Act.put, List.getElem_toArray, List.getElem_cons_zero, List.getElem_cons_succ, List.setIfInBounds_toArray, List.set_cons_zero, List.set_cons_succ]
        refine wpAnyH_take (i := 6) (v := ?_) rfl (by kernel_rfl) (by kernel_rfl) (by kernel_rfl) (fun _ _ _ h => h) (Or.inl ⟨by rfl, ?_⟩) (sK _ LB0.out LA0.out) ?_
        rotate_left
        · (intro wS hSw; (try dsimp only at hSw); go_simp; try with_reducible rfl)
        simp only [Act.put, List.getElem_toArray, List.getElem_cons_zero, List.getElem_cons_succ, List.setIfInBounds_toArray, List.set_cons_zero, List.set_cons_succ]
        refine wpAnyH_take (i := 7) (v := ?_) rfl (by kernel_rfl) (by kernel_rfl) (by kernel_rfl) (fun _ _ _ h => h) (Or.inl ⟨by rfl, ?_⟩) (sK _ LB0.out LA0.out) ?_
        rotate_left
        · (intro wS hSw; (try dsimp only at hSw); go_simp; try with_reducible rfl)
        simp only [Act.put, List.getElem_toArray, List.getElem_cons_zero, List.getElem_cons_succ, List.setIfInBounds_toArray, List.set_cons_zero, List.set_cons_succ]
        refine wpAnyH_take (i := 8) (v := ?_) rfl (by kernel_rfl) (by kernel_rfl) (by kernel_rfl) (fun _ _ _ h => h) (Or.inl ⟨by rfl, ?_⟩) (sK _ LB0.out LA0.out) ?_
        rotate_left
        · (intro wS hSw; (try dsimp only at hSw); go_simp; try with_reducible rfl)
        simp only [Act.put, List.getElem_toArray, List.getElem_cons_zero, List.getElem_cons_succ, List.setIfInBounds_toArray, List.set_cons_zero, List.set_cons_succ]
        refine wpAnyH_take (i := 9) (v := ?_) rfl (by kernel_rfl) (by kernel_rfl) (by kernel_rfl) (fun _ _ _ h => h) (Or.inl ⟨by rfl, ?_⟩) (sK _ LB0.out LA0.out) ?_
        rotate_left
        · (intro wS hSw; (try dsimp only at hSw); go_simp; try with_reducible rfl)
        simp only [Act.put, List.getElem_toArray, List.getElem_cons_zero, List.getElem_cons_succ, List.setIfInBounds_toArray, List.set_cons_zero, List.set_cons_succ]
        refine wpAnyH_take (i := 10) (v := ?_) rfl (by kernel_rfl) (by kernel_rfl) (by kernel_rfl) (fun _ _ _ h => h) (Or.inl ⟨by rfl, ?_⟩) (sK _ LB0.out LA0.out) ?_
        rotate_left
        · (intro wS hSw; (try dsimp only at hSw); go_simp; try with_reducible rfl)
        simp only [Act.put, List.getElem_toArray, List.getElem_cons_zero, List.getElem_cons_succ, List.setIfInBounds_toArray, List.set_cons_zero, List.set_cons_succ]
        refine wpAnyH_take (i := 11) (v := ?_) rfl (by kernel_rfl) (by kernel_rfl) (by kernel_rfl) (fun _ _ _ h => h) (Or.inl ⟨by rfl, ?_⟩) (sK _ LB0.out LA0.out) ?_
        rotate_left
        · (intro wS hSw; (try dsimp only at hSw); go_simp; try with_reducible rfl)
        simp only [Act.put, List.getElem_toArray, List.getElem_cons_zero, List.getElem_cons_succ, List.setIfInBounds_toArray, List.set_cons_zero, List.set_cons_succ]
        refine wpAnyH_take (i := 12) (v := ?_) rfl (by kernel_rfl) (by kernel_rfl) (by kernel_rfl) (fun _ _ _ h => h) (Or.inl ⟨by rfl, ?_⟩) (sK _ LB0.out LA0.out) ?_
        rotate_left
        · (intro wS hSw; (try dsimp only at hSw); go_simp; try with_reducible rfl)
        simp only [Act.put, List.getElem_toArray, List.getElem_cons_zero, List.getElem_cons_succ, List.setIfInBounds_toArray, List.set_cons_zero, List.set_cons_succ]
        refine wpAnyH_take (i := 13) (v := ?_) rfl (by kernel_rfl) (by kernel_rfl) (by kernel_rfl) (fun _ _ _ h => h) (Or.inl ⟨by rfl, ?_⟩) (sK _ LB0.out LA0.out) ?_
        rotate_left
        · (intro wS hSw; (try dsimp only at hSw); go_simp; try with_reducible rfl)
        simp only [Act.put, List.getElem_toArray, List.getElem_cons_zero, List.getElem_cons_succ, List.setIfInBounds_toArray, List.set_cons_zero, List.set_cons_succ]
        refine wpAnyH_take (i := 14) (v := ?_) rfl (by kernel_rfl) (by kernel_rfl) (by kernel_rfl) (fun _ _ _ h => h) (Or.inl ⟨by rfl, ?_⟩) (sK _ LB0.out LA0.out) ?_
        rotate_left
        · (intro wS hSw; (try dsimp only at hSw); go_simp; try with_reducible rfl)
        simp only [Act.put, List.getElem_toArray, List.getElem_cons_zero, List.getElem_cons_succ, List.setIfInBounds_toArray, List.set_cons_zero, List.set_cons_succ]
        refine wpAnyH_done (by kernel_rfl) ?_ _
        have HB := LB0
        have HA := LA0
        have EE := E0
        have kB0 : wr.drew.cell? ⟨w.heap.size, 0, none⟩ = some (.int .i64 kind) := HB.out.cell 0
        have kB1 : wr.drew.cell? ⟨w.heap.size, 1, none⟩ = some (.int .i64 t) := HB.out.cell 1
        have kB2 : wr.drew.cell? ⟨w.heap.size, 2, none⟩ = some (.int .i64 d) := HB.out.cell 2
        have kB3 : wr.drew.cell? ⟨w.heap.size, 3, none⟩ = some (.int .i64 f) := HB.out.cell 3
        have kA0 : wr.drew.cell? ⟨b, o + k * 3, none⟩ = some (.int .i64 tk) := HA.out 0 _ rfl
        clear kB0 kB1 kB2 kB3 kA0
        clear hod hod2 hkni0 hdt
        go_wp2_with fail
        go_roundw
        case rel => exact ⟨k + 1, by omega, by omega, Lib.hid (fun j hj => by
          by_cases e : j = k
          · subst e; unfold eE; rw [HTK.out]; exact htt
          · exact HLE.out j (by omega))⟩
        case measure => simp [intOf]; omega
      · have hdt : decide (tk ≤ t) = false := decide_eq_false htt
        have kB0 : wr.cell? ⟨w.heap.size, 0, none⟩ = some (.int .i64 kind) := HB.out.cell 0
        have kB1 : wr.cell? ⟨w.heap.size, 1, none⟩ = some (.int .i64 t) := HB.out.cell 1
        have kB2 : wr.cell? ⟨w.heap.size, 2, none⟩ = some (.int .i64 d) := HB.out.cell 2
        have kB3 : wr.cell? ⟨w.heap.size, 3, none⟩ = some (.int .i64 f) := HB.out.cell 3
        have kA0 : wr.cell? ⟨b, o + k * 3, none⟩ = some (.int .i64 tk) := HA.out 0 _ rfl
        go_wp2_with fail
        have sK : ∀ X, Blk X (w.heap.size) 35 #[.int .i64 kind, .int .i64 t, .int .i64 d, .int .i64 f] → At X b (o + k * 3) #[.int .i64 tk] → (fun X => X.cell? ⟨w.heap.size, 0, none⟩ = some (.int .i64 kind) ∧ X.cell? ⟨w.heap.size, 1, none⟩ = some (.int .i64 t) ∧ X.cell? ⟨w.heap.size, 2, none⟩ = some (.int .i64 d) ∧ X.cell? ⟨w.heap.size, 3, none⟩ = some (.int .i64 f) ∧ X.cell? ⟨b, o + k * 3, none⟩ = some (.int .i64 tk)) X := fun X hB hA => ⟨hB.cell 0, hB.cell 1, hB.cell 2, hB.cell 3, hA 0 _ rfl⟩
        have LB0 := Lib.hid (HB.out.drew)
        have LA0 := Lib.hid (HA.out.drew)
        have E0 := Lib.hid (EE.out.drew)
        clear kB0 kB1 kB2 kB3 kA0
        refine wp_region_held_drew (S := (fun X => X.cell? ⟨w.heap.size, 0, none⟩ = some (.int .i64 kind) ∧ X.cell? ⟨w.heap.size, 1, none⟩ = some (.int .i64 t) ∧ X.cell? ⟨w.heap.size, 2, none⟩ = some (.int .i64 d) ∧ X.cell? ⟨w.heap.size, 3, none⟩ = some (.int .i64 f) ∧ X.cell? ⟨b, o + k * 3, none⟩ = some (.int .i64 tk))) (by kernel_rfl) (sK _ LB0.out LA0.out) (fun hHeld => ?_)
        clear hHeld
        refine wpAnyH_take (i := 0) (v := ?_) rfl (by kernel_rfl) (by kernel_rfl) (by kernel_rfl) (fun _ _ _ h => h) (Or.inl ⟨by rfl, ?_⟩) (sK _ LB0.out LA0.out) ?_
        rotate_left
        · (intro wS hSw; (try dsimp only at hSw); go_simp; try with_reducible rfl)
        simp only [Act.put, List.getElem_toArray, List.getElem_cons_zero, List.getElem_cons_succ, List.setIfInBounds_toArray, List.set_cons_zero, List.set_cons_succ]
        refine wpAnyH_take (i := 1) (v := ?_) rfl (by kernel_rfl) (by kernel_rfl) (by kernel_rfl) (fun _ _ _ h => h) (Or.inl ⟨by rfl, ?_⟩) (sK _ LB0.out LA0.out) ?_
        rotate_left
        · (intro wS hSw; (try dsimp only at hSw); go_simp; try with_reducible rfl)
        simp only [Act.put, List.getElem_toArray, List.getElem_cons_zero, List.getElem_cons_succ, List.setIfInBounds_toArray, List.set_cons_zero, List.set_cons_succ]
        refine wpAnyH_take (i := 2) (v := ?_) rfl (by kernel_rfl) (by kernel_rfl) (by kernel_rfl) (fun _ _ _ h => h) (Or.inl ⟨by rfl, ?_⟩) (sK _ LB0.out LA0.out) ?_
        rotate_left
        · (intro wS hSw; (try dsimp only at hSw); go_simp; try with_reducible rfl)
        simp only [Act.put, List.getElem_toArray, List.getElem_cons_zero, List.getElem_cons_succ, List.setIfInBounds_toArray, List.set_cons_zero, List.set_cons_succ]
        refine wpAnyH_take (i := 3) (v := ?_) rfl (by kernel_rfl) (by kernel_rfl) (by kernel_rfl) (fun _ _ _ h => h) (Or.inl ⟨by rfl, ?_⟩) (sK _ LB0.out LA0.out) ?_
        rotate_left
        · (intro wS hSw; (try dsimp only at hSw); go_simp; try with_reducible rfl)
        simp only [Act.put, List.getElem_toArray, List.getElem_cons_zero, List.getElem_cons_succ, List.setIfInBounds_toArray, List.set_cons_zero, List.set_cons_succ]
        refine wpAnyH_take (i := 4) (v := ?_) rfl (by kernel_rfl) (by kernel_rfl) (by kernel_rfl) (fun _ _ _ h => h) (Or.inl ⟨by rfl, ?_⟩) (sK _ LB0.out LA0.out) ?_
        rotate_left
        · (intro wS hSw; (try dsimp only at hSw); go_simp; try with_reducible rfl)
        simp only [Act.put, List.getElem_toArray, List.getElem_cons_zero, List.getElem_cons_succ, List.setIfInBounds_toArray, List.set_cons_zero, List.set_cons_succ]
        refine wpAnyH_take (i := 5) (v := ?_) rfl (by kernel_rfl) (by kernel_rfl) (by kernel_rfl) (fun _ _ _ h => h) (Or.inl ⟨by rfl, ?_⟩) (sK _ LB0.out LA0.out) ?_
        rotate_left
        · (intro wS hSw; (try dsimp only at hSw); go_simp; try with_reducible rfl)
        simp only [Act.put, List.getElem_toArray, List.getElem_cons_zero, List.getElem_cons_succ, List.setIfInBounds_toArray, List.set_cons_zero, List.set_cons_succ]
        refine wpAnyH_take (i := 6) (v := ?_) rfl (by kernel_rfl) (by kernel_rfl) (by kernel_rfl) (fun _ _ _ h => h) (Or.inl ⟨by rfl, ?_⟩) (sK _ LB0.out LA0.out) ?_
        rotate_left
        · (intro wS hSw; (try dsimp only at hSw); go_simp; try with_reducible rfl)
        simp only [Act.put, List.getElem_toArray, List.getElem_cons_zero, List.getElem_cons_succ, List.setIfInBounds_toArray, List.set_cons_zero, List.set_cons_succ]
        refine wpAnyH_take (i := 7) (v := ?_) rfl (by kernel_rfl) (by kernel_rfl) (by kernel_rfl) (fun _ _ _ h => h) (Or.inl ⟨by rfl, ?_⟩) (sK _ LB0.out LA0.out) ?_
        rotate_left
        · (intro wS hSw; (try dsimp only at hSw); go_simp; try with_reducible rfl)
        simp only [Act.put, List.getElem_toArray, List.getElem_cons_zero, List.getElem_cons_succ, List.setIfInBounds_toArray, List.set_cons_zero, List.set_cons_succ]
        refine wpAnyH_take (i := 8) (v := ?_) rfl (by kernel_rfl) (by kernel_rfl) (by kernel_rfl) (fun _ _ _ h => h) (Or.inl ⟨by rfl, ?_⟩) (sK _ LB0.out LA0.out) ?_
        rotate_left
        · (intro wS hSw; (try dsimp only at hSw); go_simp; try with_reducible rfl)
        simp only [Act.put, List.getElem_toArray, List.getElem_cons_zero, List.getElem_cons_succ, List.setIfInBounds_toArray, List.set_cons_zero, List.set_cons_succ]
        refine wpAnyH_take (i := 9) (v := ?_) rfl (by kernel_rfl) (by kernel_rfl) (by kernel_rfl) (fun _ _ _ h => h) (Or.inl ⟨by rfl, ?_⟩) (sK _ LB0.out LA0.out) ?_
        rotate_left
        · (intro wS hSw; (try dsimp only at hSw); go_simp; try with_reducible rfl)
        simp only [Act.put, List.getElem_toArray, List.getElem_cons_zero, List.getElem_cons_succ, List.setIfInBounds_toArray, List.set_cons_zero, List.set_cons_succ]
        refine wpAnyH_take (i := 10) (v := ?_) rfl (by kernel_rfl) (by kernel_rfl) (by kernel_rfl) (fun _ _ _ h => h) (Or.inl ⟨by rfl, ?_⟩) (sK _ LB0.out LA0.out) ?_
        rotate_left
        · (intro wS hSw; (try dsimp only at hSw); go_simp; try with_reducible rfl)
        simp only [Act.put, List.getElem_toArray, List.getElem_cons_zero, List.getElem_cons_succ, List.setIfInBounds_toArray, List.set_cons_zero, List.set_cons_succ]
        refine wpAnyH_take (i := 11) (v := ?_) rfl (by kernel_rfl) (by kernel_rfl) (by kernel_rfl) (fun _ _ _ h => h) (Or.inl ⟨by rfl, ?_⟩) (sK _ LB0.out LA0.out) ?_
        rotate_left
        · (intro wS hSw; (try dsimp only at hSw); go_simp; try with_reducible rfl)
        simp only [Act.put, List.getElem_toArray, List.getElem_cons_zero, List.getElem_cons_succ, List.setIfInBounds_toArray, List.set_cons_zero, List.set_cons_succ]
        refine wpAnyH_take (i := 12) (v := ?_) rfl (by kernel_rfl) (by kernel_rfl) (by kernel_rfl) (fun _ _ _ h => h) (Or.inl ⟨by rfl, ?_⟩) (sK _ LB0.out LA0.out) ?_
        rotate_left
        · (intro wS hSw; (try dsimp only at hSw); go_simp; try with_reducible rfl)
        simp only [Act.put, List.getElem_toArray, List.getElem_cons_zero, List.getElem_cons_succ, List.setIfInBounds_toArray, List.set_cons_zero, List.set_cons_succ]
        refine wpAnyH_take (i := 13) (v := ?_) rfl (by kernel_rfl) (by kernel_rfl) (by kernel_rfl) (fun _ _ _ h => h) (Or.inl ⟨by rfl, ?_⟩) (sK _ LB0.out LA0.out) ?_
        rotate_left
        · (intro wS hSw; (try dsimp only at hSw); go_simp; try with_reducible rfl)
        simp only [Act.put, List.getElem_toArray, List.getElem_cons_zero, List.getElem_cons_succ, List.setIfInBounds_toArray, List.set_cons_zero, List.set_cons_succ]
        refine wpAnyH_take (i := 14) (v := ?_) rfl (by kernel_rfl) (by kernel_rfl) (by kernel_rfl) (fun _ _ _ h => h) (Or.inl ⟨by rfl, ?_⟩) (sK _ LB0.out LA0.out) ?_
        rotate_left
        · (intro wS hSw; (try dsimp only at hSw); go_simp; try with_reducible rfl)
        simp only [Act.put, List.getElem_toArray, List.getElem_cons_zero, List.getElem_cons_succ, List.setIfInBounds_toArray, List.set_cons_zero, List.set_cons_succ]
        refine wpAnyH_done (by kernel_rfl) ?_ _
        have HB := LB0
        have HA := LA0
        have EE := E0
        have kB0 : wr.drew.cell? ⟨w.heap.size, 0, none⟩ = some (.int .i64 kind) := HB.out.cell 0
        have kB1 : wr.drew.cell? ⟨w.heap.size, 1, none⟩ = some (.int .i64 t) := HB.out.cell 1
        have kB2 : wr.drew.cell? ⟨w.heap.size, 2, none⟩ = some (.int .i64 d) := HB.out.cell 2
        have kB3 : wr.drew.cell? ⟨w.heap.size, 3, none⟩ = some (.int .i64 f) := HB.out.cell 3
        have kA0 : wr.drew.cell? ⟨b, o + k * 3, none⟩ = some (.int .i64 tk) := HA.out 0 _ rfl
        clear kB0 kB1 kB2 kB3 kA0
        clear hod hod2 hkni0 hdt
        clear HA
        go_wp2_with fail
        have hgt : k < M.length → t < (eE M k).1 := fun _ => by unfold eE; rw [HTK.out]; omega
        have HGT := Lib.hid hgt
        clear hgt
        have gB := HB.out; have gE := EE.out
        clear HB EE
        obtain ⟨V1, hV1⟩ : ∃ V, wr.drew = V := ⟨_, rfl⟩
        try rw [hV1]
        rw [hV1] at gB gE
        clear hV1
        have HB := Lib.hid gB; have EW := Lib.hid gE
        clear gB gE
        have SV := Lib.hid (HST.out.below EW.out)
        have EE : Hid (Below V1.heap.size V1 V1) := Lib.hid (Below.refl _ _)
        by_cases hkc : k < c
        · have hkci : (k : Int) < (c : Int) := by omega
          have hkci2 : (k : Int) ≤ (c : Int) := by omega
          have hkc' : k ≤ c := by omega
          have hkni : (k : Int) ≤ (n : Int) := by omega
          have kB0 : V1.cell? ⟨w.heap.size, 0, none⟩ = some (.int .i64 kind) := HB.out.cell 0
          have kB1 : V1.cell? ⟨w.heap.size, 1, none⟩ = some (.int .i64 t) := HB.out.cell 1
          have kB2 : V1.cell? ⟨w.heap.size, 2, none⟩ = some (.int .i64 d) := HB.out.cell 2
          have kB3 : V1.cell? ⟨w.heap.size, 3, none⟩ = some (.int .i64 f) := HB.out.cell 3
          go_wp2_with fail
          have sK : ∀ X, Blk X (w.heap.size) 35 #[.int .i64 kind, .int .i64 t, .int .i64 d, .int .i64 f] → (fun X => X.cell? ⟨w.heap.size, 0, none⟩ = some (.int .i64 kind) ∧ X.cell? ⟨w.heap.size, 1, none⟩ = some (.int .i64 t) ∧ X.cell? ⟨w.heap.size, 2, none⟩ = some (.int .i64 d) ∧ X.cell? ⟨w.heap.size, 3, none⟩ = some (.int .i64 f)) X := fun X hB => ⟨hB.cell 0, hB.cell 1, hB.cell 2, hB.cell 3⟩
          have LB0 := Lib.hid (HB.out.drew)
          have E0 := Lib.hid (EE.out.drew)
          clear kB0 kB1 kB2 kB3
          refine wp_region_held_drew (S := (fun X => X.cell? ⟨w.heap.size, 0, none⟩ = some (.int .i64 kind) ∧ X.cell? ⟨w.heap.size, 1, none⟩ = some (.int .i64 t) ∧ X.cell? ⟨w.heap.size, 2, none⟩ = some (.int .i64 d) ∧ X.cell? ⟨w.heap.size, 3, none⟩ = some (.int .i64 f))) (by kernel_rfl) (sK _ LB0.out) (fun hHeld => ?_)
          clear hHeld
          refine wpAnyH_take (i := 0) (v := ?_) rfl (by kernel_rfl) (by kernel_rfl) (by kernel_rfl) (fun _ _ _ h => h) (Or.inl ⟨by rfl, ?_⟩) (sK _ LB0.out) ?_
          rotate_left
          · (intro wS hSw; (try dsimp only at hSw); go_simp; try with_reducible rfl)
          simp only [Act.put, List.getElem_toArray, List.getElem_cons_zero, List.getElem_cons_succ, List.setIfInBounds_toArray, List.set_cons_zero, List.set_cons_succ]
          refine wpAnyH_take (i := 1) (v := ?_) rfl (by kernel_rfl) (by kernel_rfl) (by kernel_rfl) (fun _ _ _ h => h) (Or.inl ⟨by rfl, ?_⟩) (sK _ LB0.out) ?_
          rotate_left
          · (intro wS hSw; (try dsimp only at hSw); go_simp; try with_reducible rfl)
          simp only [Act.put, List.getElem_toArray, List.getElem_cons_zero, List.getElem_cons_succ, List.setIfInBounds_toArray, List.set_cons_zero, List.set_cons_succ]
          refine wpAnyH_take (i := 2) (v := ?_) rfl (by kernel_rfl) (by kernel_rfl) (by kernel_rfl) (fun _ _ _ h => h) (Or.inl ⟨by rfl, ?_⟩) (sK _ LB0.out) ?_
          rotate_left
          · (intro wS hSw; (try dsimp only at hSw); go_simp; try with_reducible rfl)
          simp only [Act.put, List.getElem_toArray, List.getElem_cons_zero, List.getElem_cons_succ, List.setIfInBounds_toArray, List.set_cons_zero, List.set_cons_succ]
          refine wpAnyH_take (i := 3) (v := ?_) rfl (by kernel_rfl) (by kernel_rfl) (by kernel_rfl) (fun _ _ _ h => h) (Or.inl ⟨by rfl, ?_⟩) (sK _ LB0.out) ?_
          rotate_left
          · (intro wS hSw; (try dsimp only at hSw); go_simp; try with_reducible rfl)
          simp only [Act.put, List.getElem_toArray, List.getElem_cons_zero, List.getElem_cons_succ, List.setIfInBounds_toArray, List.set_cons_zero, List.set_cons_succ]
          refine wpAnyH_take (i := 4) (v := ?_) rfl (by kernel_rfl) (by kernel_rfl) (by kernel_rfl) (fun _ _ _ h => h) (Or.inl ⟨by rfl, ?_⟩) (sK _ LB0.out) ?_
          rotate_left
          · (intro wS hSw; (try dsimp only at hSw); go_simp; try with_reducible rfl)
          simp only [Act.put, List.getElem_toArray, List.getElem_cons_zero, List.getElem_cons_succ, List.setIfInBounds_toArray, List.set_cons_zero, List.set_cons_succ]
          refine wpAnyH_take (i := 5) (v := ?_) rfl (by kernel_rfl) (by kernel_rfl) (by kernel_rfl) (fun _ _ _ h => h) (Or.inl ⟨by rfl, ?_⟩) (sK _ LB0.out) ?_
          rotate_left
          · (intro wS hSw; (try dsimp only at hSw); go_simp; try with_reducible rfl)
          simp only [Act.put, List.getElem_toArray, List.getElem_cons_zero, List.getElem_cons_succ, List.setIfInBounds_toArray, List.set_cons_zero, List.set_cons_succ]
          refine wpAnyH_take (i := 6) (v := ?_) rfl (by kernel_rfl) (by kernel_rfl) (by kernel_rfl) (fun _ _ _ h => h) (Or.inl ⟨by rfl, ?_⟩) (sK _ LB0.out) ?_
          rotate_left
          · (intro wS hSw; (try dsimp only at hSw); go_simp; try with_reducible rfl)
          simp only [Act.put, List.getElem_toArray, List.getElem_cons_zero, List.getElem_cons_succ, List.setIfInBounds_toArray, List.set_cons_zero, List.set_cons_succ]
          refine wpAnyH_take (i := 8) (v := ?_) rfl (by kernel_rfl) (by kernel_rfl) (by kernel_rfl) (fun _ _ _ h => h) (Or.inl ⟨by rfl, ?_⟩) (sK _ LB0.out) ?_
          rotate_left
          · (intro wS hSw; (try dsimp only at hSw); go_simp; try with_reducible rfl)
          simp only [Act.put, List.getElem_toArray, List.getElem_cons_zero, List.getElem_cons_succ, List.setIfInBounds_toArray, List.set_cons_zero, List.set_cons_succ]
          refine wpAnyH_take (i := 9) (v := ?_) rfl (by kernel_rfl) (by kernel_rfl) (by kernel_rfl) (fun _ _ _ h => h) (Or.inl ⟨by rfl, ?_⟩) (sK _ LB0.out) ?_
          rotate_left
          · (intro wS hSw; (try dsimp only at hSw); go_simp; try with_reducible rfl)
          simp only [Act.put, List.getElem_toArray, List.getElem_cons_zero, List.getElem_cons_succ, List.setIfInBounds_toArray, List.set_cons_zero, List.set_cons_succ]
          refine wpAnyH_take (i := 10) (v := ?_) rfl (by kernel_rfl) (by kernel_rfl) (by kernel_rfl) (fun _ _ _ h => h) (Or.inl ⟨by rfl, ?_⟩) (sK _ LB0.out) ?_
          rotate_left
          · (intro wS hSw; (try dsimp only at hSw); go_simp; try with_reducible rfl)
          simp only [Act.put, List.getElem_toArray, List.getElem_cons_zero, List.getElem_cons_succ, List.setIfInBounds_toArray, List.set_cons_zero, List.set_cons_succ]
          refine wpAnyH_ready (rs := [7]) (by kernel_rfl) (by simp) ?_
          refine AllReadyH.cons rfl (fun K hK => ?_) AllReadyH.nil
          go_simp
          have SD := (SV.out.none (Fr.refl _ V1).drew)
          refine (until_any B g v X M t _ SD.1 SD.2.1 SD.2.2.1 (by have := HM.out; omega) HX.out.1).mono ?_
          rintro e r1 ⟨k', v1, X1, rv, rfl, hk', hle, hgt, hrv, hpx, hh, hf, hs⟩
          obtain rfl := unt_unique (k := k) (by have := HMN.out; omega) HLE.out HGT.out hk' hle hgt
          have LB1 := Lib.hid (LB0.out.fr hf HBN.out)
          have HRV := Lib.hid hrv; have HPX := Lib.hid hpx; have HH := Lib.hid hh; have HS := Lib.hid hs
          have HL1 : Hid (IsE r1 (.slice (some ⟨b, o, none⟩) n c) M) := Lib.hid (SD.2.2.2.1.fr hf (fun a n c e h => h.elim (fun q => (HST.out.2.2.2.2 a n c e).1 q) (fun q => (HST.out.2.2.2.2 a n c e).2 q)))
          have F1 : Hid (Fr (hpS g v) w r1) := Lib.hid (((Fr.refl (hpS g v) w).below EW.out).drew.trans hf (fun i _ q => q))
          have E1 : Hid (Below r1.heap.size r1 r1) := Lib.hid (Below.refl _ _)
          clear hk' hle hgt hrv hpx hh hf hs SD
          go_wp2_with fail
          refine hK.out _ _ (sK _ LB1.out) (fun hHeld => ?_)
          clear hK K hHeld
          try simp only [Act.put, List.getElem_toArray, List.getElem_cons_zero, List.getElem_cons_succ, List.setIfInBounds_toArray, List.set_cons_zero, List.set_cons_succ]
          obtain ⟨r0, rfl⟩ : ∃ V, V = r1 := ⟨_, rfl⟩
          refine wpAnyH_ready (rs := [11]) (by kernel_rfl) (by simp) ?_
          refine AllReadyH.cons rfl (fun K hK => ?_) AllReadyH.nil
          go_simp
          refine (ents_same rv _ (M.take k) _ HRV.out (isE_take HL1.out hk) (by rw [List.length_take]; have := HMN.out; omega)).mono ?_
          rintro e r2 ⟨rfl, hb⟩
          have LB2 := Lib.hid (Blk.next (w := r0) LB1.out hb)
          have E2 := Lib.hid (E1.out.trans (hb.mono E1.out.size))
          clear hb
          go_wp2_with fail
          refine hK.out _ _ (sK _ LB2.out) (fun hHeld => ?_)
          clear hK K hHeld
          try simp only [Act.put, List.getElem_toArray, List.getElem_cons_zero, List.getElem_cons_succ, List.setIfInBounds_toArray, List.set_cons_zero, List.set_cons_succ]
          refine wpAnyH_take (i := 12) (v := ?_) rfl (by kernel_rfl) (by kernel_rfl) (by kernel_rfl) (fun _ _ _ h => h) (Or.inl ⟨by rfl, ?_⟩) (sK _ LB2.out) ?_
          rotate_left
          · (intro wS hSw; (try dsimp only at hSw); go_simp; try with_reducible rfl)
          simp only [Act.put, List.getElem_toArray, List.getElem_cons_zero, List.getElem_cons_succ, List.setIfInBounds_toArray, List.set_cons_zero, List.set_cons_succ]
          refine wpAnyH_take (i := 13) (v := ?_) rfl (by kernel_rfl) (by kernel_rfl) (by kernel_rfl) (fun _ _ _ h => h) (Or.inl ⟨by rfl, ?_⟩) (sK _ LB2.out) ?_
          rotate_left
          · (intro wS hSw; (try dsimp only at hSw); go_simp; try with_reducible rfl)
          simp only [Act.put, List.getElem_toArray, List.getElem_cons_zero, List.getElem_cons_succ, List.setIfInBounds_toArray, List.set_cons_zero, List.set_cons_succ]
          refine wpAnyH_done (by kernel_rfl) ?_ _
          go_wp2_with fail
          refine bodyPost_ret (v := .tuple #[(.slice (some ⟨b, o + k * 3, none⟩) (n - k) (c - k)), .bool true]) (by simp [results, Try.results13, go_sem]) rfl ⟨_, v1, X1, M.drop k, rfl, ⟨HH.out.fr (S := fun _ => False) ((Fr.refl _ r0).below E2.out) (fun q => q) (fun _ _ q => q), HPX.out, ord_drop HST.out.2.2.1 k, IsE.fr (S := fun _ => False) (isE_drop HL1.out hk) ((Fr.refl _ r0).below E2.out) (fun _ _ _ _ q => q), fun a n c e => ?_⟩, F1.out.below E2.out, fun i hi => Or.inl (HS.out i hi), by rw [List.length_drop]; omega⟩
          have hb : a.block = (⟨b, o, none⟩ : Addr).block := by simp at e; rw [← e.1]
          rw [hb]
          exact ⟨fun q => (HST.out.2.2.2.2 ⟨b, o, none⟩ _ _ rfl).1 q, fun q => (HST.out.2.2.2.2 ⟨b, o, none⟩ _ _ rfl).2 (HS.out _ q)⟩
        · have ekn : n = k := by omega
          have ecn : c = k := by omega
          subst ekn
          subst ecn
          have hkni : (c : Int) ≤ (c : Int) := Int.le_refl _
          have hkk : c - c = 0 := Nat.sub_self c
          have kB0 : V1.cell? ⟨w.heap.size, 0, none⟩ = some (.int .i64 kind) := HB.out.cell 0
          have kB1 : V1.cell? ⟨w.heap.size, 1, none⟩ = some (.int .i64 t) := HB.out.cell 1
          have kB2 : V1.cell? ⟨w.heap.size, 2, none⟩ = some (.int .i64 d) := HB.out.cell 2
          have kB3 : V1.cell? ⟨w.heap.size, 3, none⟩ = some (.int .i64 f) := HB.out.cell 3
          go_wp2_with fail
          have sK : ∀ X, Blk X (w.heap.size) 35 #[.int .i64 kind, .int .i64 t, .int .i64 d, .int .i64 f] → (fun X => X.cell? ⟨w.heap.size, 0, none⟩ = some (.int .i64 kind) ∧ X.cell? ⟨w.heap.size, 1, none⟩ = some (.int .i64 t) ∧ X.cell? ⟨w.heap.size, 2, none⟩ = some (.int .i64 d) ∧ X.cell? ⟨w.heap.size, 3, none⟩ = some (.int .i64 f)) X := fun X hB => ⟨hB.cell 0, hB.cell 1, hB.cell 2, hB.cell 3⟩
          have LB0 := Lib.hid (HB.out.drew)
          have E0 := Lib.hid (EE.out.drew)
          clear kB0 kB1 kB2 kB3
          refine wp_region_held_drew (S := (fun X => X.cell? ⟨w.heap.size, 0, none⟩ = some (.int .i64 kind) ∧ X.cell? ⟨w.heap.size, 1, none⟩ = some (.int .i64 t) ∧ X.cell? ⟨w.heap.size, 2, none⟩ = some (.int .i64 d) ∧ X.cell? ⟨w.heap.size, 3, none⟩ = some (.int .i64 f))) (by kernel_rfl) (sK _ LB0.out) (fun hHeld => ?_)
          clear hHeld
          refine wpAnyH_take (i := 0) (v := ?_) rfl (by kernel_rfl) (by kernel_rfl) (by kernel_rfl) (fun _ _ _ h => h) (Or.inl ⟨by rfl, ?_⟩) (sK _ LB0.out) ?_
          rotate_left
          · (intro wS hSw; (try dsimp only at hSw); go_simp; try with_reducible rfl)
          simp only [Act.put, List.getElem_toArray, List.getElem_cons_zero, List.getElem_cons_succ, List.setIfInBounds_toArray, List.set_cons_zero, List.set_cons_succ]
          refine wpAnyH_take (i := 1) (v := ?_) rfl (by kernel_rfl) (by kernel_rfl) (by kernel_rfl) (fun _ _ _ h => h) (Or.inl ⟨by rfl, ?_⟩) (sK _ LB0.out) ?_
          rotate_left
          · (intro wS hSw; (try dsimp only at hSw); go_simp; try with_reducible rfl)
          simp only [Act.put, List.getElem_toArray, List.getElem_cons_zero, List.getElem_cons_succ, List.setIfInBounds_toArray, List.set_cons_zero, List.set_cons_succ]
          refine wpAnyH_take (i := 2) (v := ?_) rfl (by kernel_rfl) (by kernel_rfl) (by kernel_rfl) (fun _ _ _ h => h) (Or.inl ⟨by rfl, ?_⟩) (sK _ LB0.out) ?_
          rotate_left
          · (intro wS hSw; (try dsimp only at hSw); go_simp; try with_reducible rfl)
          simp only [Act.put, List.getElem_toArray, List.getElem_cons_zero, List.getElem_cons_succ, List.setIfInBounds_toArray, List.set_cons_zero, List.set_cons_succ]
          refine wpAnyH_take (i := 3) (v := ?_) rfl (by kernel_rfl) (by kernel_rfl) (by kernel_rfl) (fun _ _ _ h => h) (Or.inl ⟨by rfl, ?_⟩) (sK _ LB0.out) ?_
          rotate_left
          · (intro wS hSw; (try dsimp only at hSw); go_simp; try with_reducible rfl)
          simp only [Act.put, List.getElem_toArray, List.getElem_cons_zero, List.getElem_cons_succ, List.setIfInBounds_toArray, List.set_cons_zero, List.set_cons_succ]
          refine wpAnyH_take (i := 4) (v := ?_) rfl (by kernel_rfl) (by kernel_rfl) (by kernel_rfl) (fun _ _ _ h => h) (Or.inl ⟨by rfl, ?_⟩) (sK _ LB0.out) ?_
          rotate_left
          · (intro wS hSw; (try dsimp only at hSw); go_simp; try with_reducible rfl)
          simp only [Act.put, List.getElem_toArray, List.getElem_cons_zero, List.getElem_cons_succ, List.setIfInBounds_toArray, List.set_cons_zero, List.set_cons_succ]
          refine wpAnyH_take (i := 5) (v := ?_) rfl (by kernel_rfl) (by kernel_rfl) (by kernel_rfl) (fun _ _ _ h => h) (Or.inl ⟨by rfl, ?_⟩) (sK _ LB0.out) ?_
          rotate_left
          · (intro wS hSw; (try dsimp only at hSw); go_simp; try with_reducible rfl)
          simp only [Act.put, List.getElem_toArray, List.getElem_cons_zero, List.getElem_cons_succ, List.setIfInBounds_toArray, List.set_cons_zero, List.set_cons_succ]
          refine wpAnyH_take (i := 6) (v := ?_) rfl (by kernel_rfl) (by kernel_rfl) (by kernel_rfl) (fun _ _ _ h => h) (Or.inl ⟨by rfl, ?_⟩) (sK _ LB0.out) ?_
          rotate_left
          · (intro wS hSw; (try dsimp only at hSw); go_simp; try with_reducible rfl)
          simp only [Act.put, List.getElem_toArray, List.getElem_cons_zero, List.getElem_cons_succ, List.setIfInBounds_toArray, List.set_cons_zero, List.set_cons_succ]
          refine wpAnyH_take (i := 8) (v := ?_) rfl (by kernel_rfl) (by kernel_rfl) (by kernel_rfl) (fun _ _ _ h => h) (Or.inl ⟨by rfl, ?_⟩) (sK _ LB0.out) ?_
          rotate_left
          · (intro wS hSw; (try dsimp only at hSw); go_simp; try with_reducible rfl)
          simp only [Act.put, List.getElem_toArray, List.getElem_cons_zero, List.getElem_cons_succ, List.setIfInBounds_toArray, List.set_cons_zero, List.set_cons_succ]
          refine wpAnyH_take (i := 9) (v := ?_) rfl (by kernel_rfl) (by kernel_rfl) (by kernel_rfl) (fun _ _ _ h => h) (Or.inl ⟨by rfl, ?_⟩) (sK _ LB0.out) ?_
          rotate_left
          · (intro wS hSw; (try dsimp only at hSw); go_simp; try with_reducible rfl)
          simp only [Act.put, List.getElem_toArray, List.getElem_cons_zero, List.getElem_cons_succ, List.setIfInBounds_toArray, List.set_cons_zero, List.set_cons_succ]
          refine wpAnyH_take (i := 10) (v := ?_) rfl (by kernel_rfl) (by kernel_rfl) (by kernel_rfl) (fun _ _ _ h => h) (Or.inl ⟨by rfl, ?_⟩) (sK _ LB0.out) ?_
          rotate_left
          · (intro wS hSw; (try dsimp only at hSw); go_simp; try with_reducible rfl)
          simp only [Act.put, List.getElem_toArray, List.getElem_cons_zero, List.getElem_cons_succ, List.setIfInBounds_toArray, List.set_cons_zero, List.set_cons_succ]
          refine wpAnyH_ready (rs := [7]) (by kernel_rfl) (by simp) ?_
          refine AllReadyH.cons rfl (fun K hK => ?_) AllReadyH.nil
          go_simp
          have SD := (SV.out.none (Fr.refl _ V1).drew)
          refine (until_any B g v X M t _ SD.1 SD.2.1 SD.2.2.1 (by have := HM.out; omega) HX.out.1).mono ?_
          rintro e r1 ⟨k', v1, X1, rv, rfl, hk', hle, hgt, hrv, hpx, hh, hf, hs⟩
          obtain rfl := unt_unique (k := c) (by have := HMN.out; omega) HLE.out HGT.out hk' hle hgt
          have LB1 := Lib.hid (LB0.out.fr hf HBN.out)
          have HRV := Lib.hid hrv; have HPX := Lib.hid hpx; have HH := Lib.hid hh; have HS := Lib.hid hs
          have HL1 : Hid (IsE r1 (.slice (some ⟨b, o, none⟩) c c) M) := Lib.hid (SD.2.2.2.1.fr hf (fun a n c e h => h.elim (fun q => (HST.out.2.2.2.2 a n c e).1 q) (fun q => (HST.out.2.2.2.2 a n c e).2 q)))
          have F1 : Hid (Fr (hpS g v) w r1) := Lib.hid (((Fr.refl (hpS g v) w).below EW.out).drew.trans hf (fun i _ q => q))
          have E1 : Hid (Below r1.heap.size r1 r1) := Lib.hid (Below.refl _ _)
          clear hk' hle hgt hrv hpx hh hf hs SD
          go_wp2_with fail
          refine hK.out _ _ (sK _ LB1.out) (fun hHeld => ?_)
          clear hK K hHeld
          try simp only [Act.put, List.getElem_toArray, List.getElem_cons_zero, List.getElem_cons_succ, List.setIfInBounds_toArray, List.set_cons_zero, List.set_cons_succ]
          obtain ⟨r0, rfl⟩ : ∃ V, V = r1 := ⟨_, rfl⟩
          refine wpAnyH_ready (rs := [11]) (by kernel_rfl) (by simp) ?_
          refine AllReadyH.cons rfl (fun K hK => ?_) AllReadyH.nil
          go_simp
          refine (ents_same rv _ (M.take c) _ HRV.out (isE_take HL1.out hk) (by rw [List.length_take]; have := HMN.out; omega)).mono ?_
          rintro e r2 ⟨rfl, hb⟩
          have LB2 := Lib.hid (Blk.next (w := r0) LB1.out hb)
          have E2 := Lib.hid (E1.out.trans (hb.mono E1.out.size))
          clear hb
          go_wp2_with fail
          refine hK.out _ _ (sK _ LB2.out) (fun hHeld => ?_)
          clear hK K hHeld
          try simp only [Act.put, List.getElem_toArray, List.getElem_cons_zero, List.getElem_cons_succ, List.setIfInBounds_toArray, List.set_cons_zero, List.set_cons_succ]
          refine wpAnyH_take (i := 12) (v := ?_) rfl (by kernel_rfl) (by kernel_rfl) (by kernel_rfl) (fun _ _ _ h => h) (Or.inl ⟨by rfl, ?_⟩) (sK _ LB2.out) ?_
          rotate_left
          · (intro wS hSw; (try dsimp only at hSw); go_simp; try with_reducible rfl)
          simp only [Act.put, List.getElem_toArray, List.getElem_cons_zero, List.getElem_cons_succ, List.setIfInBounds_toArray, List.set_cons_zero, List.set_cons_succ]
          refine wpAnyH_take (i := 13) (v := ?_) rfl (by kernel_rfl) (by kernel_rfl) (by kernel_rfl) (fun _ _ _ h => h) (Or.inl ⟨by rfl, ?_⟩) (sK _ LB2.out) ?_
          rotate_left
          · (intro wS hSw; (try dsimp only at hSw); go_simp; try with_reducible rfl)
          simp only [Act.put, List.getElem_toArray, List.getElem_cons_zero, List.getElem_cons_succ, List.setIfInBounds_toArray, List.set_cons_zero, List.set_cons_succ]
          refine wpAnyH_done (by kernel_rfl) ?_ _
          go_wp2_with fail
          refine bodyPost_ret (v := .tuple #[(.slice (some ⟨b, o, none⟩) 0 0), .bool true]) (by simp [results, Try.results13, go_sem]) rfl ⟨_, v1, X1, M.drop c, rfl, ⟨HH.out.fr (S := fun _ => False) ((Fr.refl _ r0).below E2.out) (fun q => q) (fun _ _ q => q), HPX.out, ord_drop HST.out.2.2.1 c, IsE.fr (S := fun _ => False) (by rw [List.drop_eq_nil_of_le (by have := HMN.out; omega)]; exact isE_empty _ _ 0 (Nat.zero_le _)) ((Fr.refl _ r0).below E2.out) (fun _ _ _ _ q => q), fun a n c e => ?_⟩, F1.out.below E2.out, fun i hi => Or.inl (HS.out i hi), by rw [List.length_drop]; omega⟩
          have hb : a.block = (⟨b, o, none⟩ : Addr).block := by simp at e; rw [← e.1]
          rw [hb]
          exact ⟨fun q => (HST.out.2.2.2.2 ⟨b, o, none⟩ _ _ rfl).1 q, fun q => (HST.out.2.2.2.2 ⟨b, o, none⟩ _ _ rfl).2 (HS.out _ q)⟩
    · have hkni0 : ¬ (k : Int) < (n : Int) := by omega
      have hod : decide ((k : Int) < (n : Int)) = false := decide_eq_false hkni0
      have hod2 : decide (k < n) = false := decide_eq_false hkn
      have kB0 : wr.cell? ⟨w.heap.size, 0, none⟩ = some (.int .i64 kind) := HB.out.cell 0
      have kB1 : wr.cell? ⟨w.heap.size, 1, none⟩ = some (.int .i64 t) := HB.out.cell 1
      have kB2 : wr.cell? ⟨w.heap.size, 2, none⟩ = some (.int .i64 d) := HB.out.cell 2
      have kB3 : wr.cell? ⟨w.heap.size, 3, none⟩ = some (.int .i64 f) := HB.out.cell 3
      go_wp2_with fail
      have sK : ∀ X, Blk X (w.heap.size) 35 #[.int .i64 kind, .int .i64 t, .int .i64 d, .int .i64 f] → (fun X => X.cell? ⟨w.heap.size, 0, none⟩ = some (.int .i64 kind) ∧ X.cell? ⟨w.heap.size, 1, none⟩ = some (.int .i64 t) ∧ X.cell? ⟨w.heap.size, 2, none⟩ = some (.int .i64 d) ∧ X.cell? ⟨w.heap.size, 3, none⟩ = some (.int .i64 f)) X := fun X hB => ⟨hB.cell 0, hB.cell 1, hB.cell 2, hB.cell 3⟩
      have LB0 := Lib.hid (HB.out.drew)
      have E0 := Lib.hid (EE.out.drew)
      clear kB0 kB1 kB2 kB3
      refine wp_region_held_drew (S := (fun X => X.cell? ⟨w.heap.size, 0, none⟩ = some (.int .i64 kind) ∧ X.cell? ⟨w.heap.size, 1, none⟩ = some (.int .i64 t) ∧ X.cell? ⟨w.heap.size, 2, none⟩ = some (.int .i64 d) ∧ X.cell? ⟨w.heap.size, 3, none⟩ = some (.int .i64 f))) (by kernel_rfl) (sK _ LB0.out) (fun hHeld => ?_)
      clear hHeld
      refine wpAnyH_take (i := 0) (v := ?_) rfl (by kernel_rfl) (by kernel_rfl) (by kernel_rfl) (fun _ _ _ h => h) (Or.inl ⟨by rfl, ?_⟩) (sK _ LB0.out) ?_
      rotate_left
      · (intro wS hSw; (try dsimp only at hSw); go_simp; try with_reducible rfl)
      simp only [Act.put, List.getElem_toArray, List.getElem_cons_zero, List.getElem_cons_succ, List.setIfInBounds_toArray, List.set_cons_zero, List.set_cons_succ]
      refine wpAnyH_take (i := 1) (v := ?_) rfl (by kernel_rfl) (by kernel_rfl) (by kernel_rfl) (fun _ _ _ h => h) (Or.inl ⟨by rfl, ?_⟩) (sK _ LB0.out) ?_
      rotate_left
      · (intro wS hSw; (try dsimp only at hSw); go_simp; try with_reducible rfl)
      simp only [Act.put, List.getElem_toArray, List.getElem_cons_zero, List.getElem_cons_succ, List.setIfInBounds_toArray, List.set_cons_zero, List.set_cons_succ]
      refine wpAnyH_take (i := 2) (v := ?_) rfl (by kernel_rfl) (by kernel_rfl) (by kernel_rfl) (fun _ _ _ h => h) (Or.inl ⟨by rfl, ?_⟩) (sK _ LB0.out) ?_
      rotate_left
      · (intro wS hSw; (try dsimp only at hSw); go_simp; try with_reducible rfl)
      simp only [Act.put, List.getElem_toArray, List.getElem_cons_zero, List.getElem_cons_succ, List.setIfInBounds_toArray, List.set_cons_zero, List.set_cons_succ]
      refine wpAnyH_take (i := 3) (v := ?_) rfl (by kernel_rfl) (by kernel_rfl) (by kernel_rfl) (fun _ _ _ h => h) (Or.inl ⟨by rfl, ?_⟩) (sK _ LB0.out) ?_
      rotate_left
      · (intro wS hSw; (try dsimp only at hSw); go_simp; try with_reducible rfl)
      simp only [Act.put, List.getElem_toArray, List.getElem_cons_zero, List.getElem_cons_succ, List.setIfInBounds_toArray, List.set_cons_zero, List.set_cons_succ]
      refine wpAnyH_take (i := 4) (v := ?_) rfl (by kernel_rfl) (by kernel_rfl) (by kernel_rfl) (fun _ _ _ h => h) (Or.inl ⟨by rfl, ?_⟩) (sK _ LB0.out) ?_
      rotate_left
      · (intro wS hSw; (try dsimp only at hSw); go_simp; try with_reducible rfl)
      simp only [Act.put, List.getElem_toArray, List.getElem_cons_zero, List.getElem_cons_succ, List.setIfInBounds_toArray, List.set_cons_zero, List.set_cons_succ]
      refine wpAnyH_take (i := 5) (v := undef) rfl (by kernel_rfl) (by kernel_rfl) (by kernel_rfl) (fun _ _ _ h => h) (Or.inr ⟨by kernel_rfl, rfl⟩) (sK _ LB0.out) ?_
      simp only [Act.put, List.getElem_toArray, List.getElem_cons_zero, List.getElem_cons_succ, List.setIfInBounds_toArray, List.set_cons_zero, List.set_cons_succ]
      refine wpAnyH_take (i := 6) (v := undef) rfl (by kernel_rfl) (by kernel_rfl) (by kernel_rfl) (fun _ _ _ h => h) (Or.inr ⟨by kernel_rfl, rfl⟩) (sK _ LB0.out) ?_
      simp only [Act.put, List.getElem_toArray, List.getElem_cons_zero, List.getElem_cons_succ, List.setIfInBounds_toArray, List.set_cons_zero, List.set_cons_succ]
      refine wpAnyH_take (i := 7) (v := undef) rfl (by kernel_rfl) (by kernel_rfl) (by kernel_rfl) (fun _ _ _ h => h) (Or.inr ⟨by kernel_rfl, rfl⟩) (sK _ LB0.out) ?_
      simp only [Act.put, List.getElem_toArray, List.getElem_cons_zero, List.getElem_cons_succ, List.setIfInBounds_toArray, List.set_cons_zero, List.set_cons_succ]
      refine wpAnyH_take (i := 8) (v := undef) rfl (by kernel_rfl) (by kernel_rfl) (by kernel_rfl) (fun _ _ _ h => h) (Or.inr ⟨by kernel_rfl, rfl⟩) (sK _ LB0.out) ?_
      simp only [Act.put, List.getElem_toArray, List.getElem_cons_zero, List.getElem_cons_succ, List.setIfInBounds_toArray, List.set_cons_zero, List.set_cons_succ]
      refine wpAnyH_take (i := 9) (v := undef) rfl (by kernel_rfl) (by kernel_rfl) (by kernel_rfl) (fun _ _ _ h => h) (Or.inr ⟨by kernel_rfl, rfl⟩) (sK _ LB0.out) ?_
      simp only [Act.put, List.getElem_toArray, List.getElem_cons_zero, List.getElem_cons_succ, List.setIfInBounds_toArray, List.set_cons_zero, List.set_cons_succ]
      refine wpAnyH_take (i := 10) (v := undef) rfl (by kernel_rfl) (by kernel_rfl) (by kernel_rfl) (fun _ _ _ h => h) (Or.inr ⟨by kernel_rfl, rfl⟩) (sK _ LB0.out) ?_
      simp only [Act.put, List.getElem_toArray, List.getElem_cons_zero, List.getElem_cons_succ, List.setIfInBounds_toArray, List.set_cons_zero, List.set_cons_succ]
      refine wpAnyH_take (i := 11) (v := undef) rfl (by kernel_rfl) (by kernel_rfl) (by kernel_rfl) (fun _ _ _ h => h) (Or.inr ⟨by kernel_rfl, rfl⟩) (sK _ LB0.out) ?_
      simp only [Act.put, List.getElem_toArray, List.getElem_cons_zero, List.getElem_cons_succ, List.setIfInBounds_toArray, List.set_cons_zero, List.set_cons_succ]
      refine wpAnyH_take (i := 12) (v := undef) rfl (by kernel_rfl) (by kernel_rfl) (by kernel_rfl) (fun _ _ _ h => h) (Or.inr ⟨by kernel_rfl, rfl⟩) (sK _ LB0.out) ?_
      simp only [Act.put, List.getElem_toArray, List.getElem_cons_zero, List.getElem_cons_succ, List.setIfInBounds_toArray, List.set_cons_zero, List.set_cons_succ]
      refine wpAnyH_take (i := 13) (v := undef) rfl (by kernel_rfl) (by kernel_rfl) (by kernel_rfl) (fun _ _ _ h => h) (Or.inr ⟨by kernel_rfl, rfl⟩) (sK _ LB0.out) ?_
      simp only [Act.put, List.getElem_toArray, List.getElem_cons_zero, List.getElem_cons_succ, List.setIfInBounds_toArray, List.set_cons_zero, List.set_cons_succ]
      refine wpAnyH_take (i := 14) (v := ?_) rfl (by kernel_rfl) (by kernel_rfl) (by kernel_rfl) (fun _ _ _ h => h) (Or.inl ⟨by rfl, ?_⟩) (sK _ LB0.out) ?_
      rotate_left
      · (intro wS hSw; (try dsimp only at hSw); go_simp; try with_reducible rfl)
      simp only [Act.put, List.getElem_toArray, List.getElem_cons_zero, List.getElem_cons_succ, List.setIfInBounds_toArray, List.set_cons_zero, List.set_cons_succ]
      refine wpAnyH_done (by kernel_rfl) ?_ _
      have HB := LB0
      have EE := E0
      have kB0 : wr.drew.cell? ⟨w.heap.size, 0, none⟩ = some (.int .i64 kind) := HB.out.cell 0
      have kB1 : wr.drew.cell? ⟨w.heap.size, 1, none⟩ = some (.int .i64 t) := HB.out.cell 1
      have kB2 : wr.drew.cell? ⟨w.heap.size, 2, none⟩ = some (.int .i64 d) := HB.out.cell 2
      have kB3 : wr.drew.cell? ⟨w.heap.size, 3, none⟩ = some (.int .i64 f) := HB.out.cell 3
      clear kB0 kB1 kB2 kB3
      clear hod hod2 hkni0
      go_wp2_with fail
      have hgt : k < M.length → t < (eE M k).1 := fun h => absurd h (by have := HMN.out; omega)
      have HGT := Lib.hid hgt
      clear hgt
      have gB := HB.out; have gE := EE.out
      clear HB EE
      obtain ⟨V1, hV1⟩ : ∃ V, wr.drew = V := ⟨_, rfl⟩
      try rw [hV1]
      rw [hV1] at gB gE
      clear hV1
      have HB := Lib.hid gB; have EW := Lib.hid gE
      clear gB gE
      have SV := Lib.hid (HST.out.below EW.out)
      have EE : Hid (Below V1.heap.size V1 V1) := Lib.hid (Below.refl _ _)
      rcases Nat.eq_zero_or_pos n with hn0 | hn0
      · obtain rfl : n = 0 := hn0
        obtain rfl : k = 0 := by omega
        cases A with
        | none =>
          obtain rfl : c = 0 := hnone rfl
          have kB0 : V1.cell? ⟨w.heap.size, 0, none⟩ = some (.int .i64 kind) := HB.out.cell 0
          have kB1 : V1.cell? ⟨w.heap.size, 1, none⟩ = some (.int .i64 t) := HB.out.cell 1
          have kB2 : V1.cell? ⟨w.heap.size, 2, none⟩ = some (.int .i64 d) := HB.out.cell 2
          have kB3 : V1.cell? ⟨w.heap.size, 3, none⟩ = some (.int .i64 f) := HB.out.cell 3
          go_wp2_with fail
          have sK : ∀ X, Blk X (w.heap.size) 35 #[.int .i64 kind, .int .i64 t, .int .i64 d, .int .i64 f] → (fun X => X.cell? ⟨w.heap.size, 0, none⟩ = some (.int .i64 kind) ∧ X.cell? ⟨w.heap.size, 1, none⟩ = some (.int .i64 t) ∧ X.cell? ⟨w.heap.size, 2, none⟩ = some (.int .i64 d) ∧ X.cell? ⟨w.heap.size, 3, none⟩ = some (.int .i64 f)) X := fun X hB => ⟨hB.cell 0, hB.cell 1, hB.cell 2, hB.cell 3⟩
          have LB0 := Lib.hid (HB.out.drew)
          have E0 := Lib.hid (EE.out.drew)
          clear kB0 kB1 kB2 kB3
          refine wp_region_held_drew (S := (fun X => X.cell? ⟨w.heap.size, 0, none⟩ = some (.int .i64 kind) ∧ X.cell? ⟨w.heap.size, 1, none⟩ = some (.int .i64 t) ∧ X.cell? ⟨w.heap.size, 2, none⟩ = some (.int .i64 d) ∧ X.cell? ⟨w.heap.size, 3, none⟩ = some (.int .i64 f))) (by kernel_rfl) (sK _ LB0.out) (fun hHeld => ?_)
          clear hHeld
          refine wpAnyH_take (i := 0) (v := ?_) rfl (by kernel_rfl) (by kernel_rfl) (by kernel_rfl) (fun _ _ _ h => h) (Or.inl ⟨by rfl, ?_⟩) (sK _ LB0.out) ?_
          rotate_left
          · (intro wS hSw; (try dsimp only at hSw); go_simp; try with_reducible rfl)
          simp only [Act.put, List.getElem_toArray, List.getElem_cons_zero, List.getElem_cons_succ, List.setIfInBounds_toArray, List.set_cons_zero, List.set_cons_succ]
          refine wpAnyH_take (i := 1) (v := ?_) rfl (by kernel_rfl) (by kernel_rfl) (by kernel_rfl) (fun _ _ _ h => h) (Or.inl ⟨by rfl, ?_⟩) (sK _ LB0.out) ?_
          rotate_left
          · (intro wS hSw; (try dsimp only at hSw); go_simp; try with_reducible rfl)
          simp only [Act.put, List.getElem_toArray, List.getElem_cons_zero, List.getElem_cons_succ, List.setIfInBounds_toArray, List.set_cons_zero, List.set_cons_succ]
          refine wpAnyH_take (i := 2) (v := ?_) rfl (by kernel_rfl) (by kernel_rfl) (by kernel_rfl) (fun _ _ _ h => h) (Or.inl ⟨by rfl, ?_⟩) (sK _ LB0.out) ?_
          rotate_left
          · (intro wS hSw; (try dsimp only at hSw); go_simp; try with_reducible rfl)
          simp only [Act.put, List.getElem_toArray, List.getElem_cons_zero, List.getElem_cons_succ, List.setIfInBounds_toArray, List.set_cons_zero, List.set_cons_succ]
          refine wpAnyH_take (i := 3) (v := ?_) rfl (by kernel_rfl) (by kernel_rfl) (by kernel_rfl) (fun _ _ _ h => h) (Or.inl ⟨by rfl, ?_⟩) (sK _ LB0.out) ?_
          rotate_left
          · (intro wS hSw; (try dsimp only at hSw); go_simp; try with_reducible rfl)
          simp only [Act.put, List.getElem_toArray, List.getElem_cons_zero, List.getElem_cons_succ, List.setIfInBounds_toArray, List.set_cons_zero, List.set_cons_succ]
          refine wpAnyH_take (i := 4) (v := ?_) rfl (by kernel_rfl) (by kernel_rfl) (by kernel_rfl) (fun _ _ _ h => h) (Or.inl ⟨by rfl, ?_⟩) (sK _ LB0.out) ?_
          rotate_left
          · (intro wS hSw; (try dsimp only at hSw); go_simp; try with_reducible rfl)
          simp only [Act.put, List.getElem_toArray, List.getElem_cons_zero, List.getElem_cons_succ, List.setIfInBounds_toArray, List.set_cons_zero, List.set_cons_succ]
          refine wpAnyH_take (i := 5) (v := ?_) rfl (by kernel_rfl) (by kernel_rfl) (by kernel_rfl) (fun _ _ _ h => h) (Or.inl ⟨by rfl, ?_⟩) (sK _ LB0.out) ?_
          rotate_left
          · (intro wS hSw; (try dsimp only at hSw); go_simp; try with_reducible rfl)
          simp only [Act.put, List.getElem_toArray, List.getElem_cons_zero, List.getElem_cons_succ, List.setIfInBounds_toArray, List.set_cons_zero, List.set_cons_succ]
          refine wpAnyH_take (i := 6) (v := ?_) rfl (by kernel_rfl) (by kernel_rfl) (by kernel_rfl) (fun _ _ _ h => h) (Or.inl ⟨by rfl, ?_⟩) (sK _ LB0.out) ?_
          rotate_left
          · (intro wS hSw; (try dsimp only at hSw); go_simp; try with_reducible rfl)
          simp only [Act.put, List.getElem_toArray, List.getElem_cons_zero, List.getElem_cons_succ, List.setIfInBounds_toArray, List.set_cons_zero, List.set_cons_succ]
          refine wpAnyH_take (i := 8) (v := ?_) rfl (by kernel_rfl) (by kernel_rfl) (by kernel_rfl) (fun _ _ _ h => h) (Or.inl ⟨by rfl, ?_⟩) (sK _ LB0.out) ?_
          rotate_left
          · (intro wS hSw; (try dsimp only at hSw); go_simp; try with_reducible rfl)
          simp only [Act.put, List.getElem_toArray, List.getElem_cons_zero, List.getElem_cons_succ, List.setIfInBounds_toArray, List.set_cons_zero, List.set_cons_succ]
          refine wpAnyH_take (i := 9) (v := ?_) rfl (by kernel_rfl) (by kernel_rfl) (by kernel_rfl) (fun _ _ _ h => h) (Or.inl ⟨by rfl, ?_⟩) (sK _ LB0.out) ?_
          rotate_left
          · (intro wS hSw; (try dsimp only at hSw); go_simp; try with_reducible rfl)
          simp only [Act.put, List.getElem_toArray, List.getElem_cons_zero, List.getElem_cons_succ, List.setIfInBounds_toArray, List.set_cons_zero, List.set_cons_succ]
          refine wpAnyH_take (i := 10) (v := ?_) rfl (by kernel_rfl) (by kernel_rfl) (by kernel_rfl) (fun _ _ _ h => h) (Or.inl ⟨by rfl, ?_⟩) (sK _ LB0.out) ?_
          rotate_left
          · (intro wS hSw; (try dsimp only at hSw); go_simp; try with_reducible rfl)
          simp only [Act.put, List.getElem_toArray, List.getElem_cons_zero, List.getElem_cons_succ, List.setIfInBounds_toArray, List.set_cons_zero, List.set_cons_succ]
          refine wpAnyH_ready (rs := [7]) (by kernel_rfl) (by simp) ?_
          refine AllReadyH.cons rfl (fun K hK => ?_) AllReadyH.nil
          go_simp
          have SD := (SV.out.none (Fr.refl _ V1).drew)
          refine (until_any B g v X M t _ SD.1 SD.2.1 SD.2.2.1 (by have := HM.out; omega) HX.out.1).mono ?_
          rintro e r1 ⟨k', v1, X1, rv, rfl, hk', hle, hgt, hrv, hpx, hh, hf, hs⟩
          obtain rfl := unt_unique (k := 0) (by have := HMN.out; omega) HLE.out HGT.out hk' hle hgt
          have LB1 := Lib.hid (LB0.out.fr hf HBN.out)
          have HRV := Lib.hid hrv; have HPX := Lib.hid hpx; have HH := Lib.hid hh; have HS := Lib.hid hs
          have HL1 : Hid (IsE r1 (.slice none 0 0) M) := Lib.hid (SD.2.2.2.1.fr hf (fun a n c e h => h.elim (fun q => (HST.out.2.2.2.2 a n c e).1 q) (fun q => (HST.out.2.2.2.2 a n c e).2 q)))
          have F1 : Hid (Fr (hpS g v) w r1) := Lib.hid (((Fr.refl (hpS g v) w).below EW.out).drew.trans hf (fun i _ q => q))
          have E1 : Hid (Below r1.heap.size r1 r1) := Lib.hid (Below.refl _ _)
          clear hk' hle hgt hrv hpx hh hf hs SD
          go_wp2_with fail
          refine hK.out _ _ (sK _ LB1.out) (fun hHeld => ?_)
          clear hK K hHeld
          try simp only [Act.put, List.getElem_toArray, List.getElem_cons_zero, List.getElem_cons_succ, List.setIfInBounds_toArray, List.set_cons_zero, List.set_cons_succ]
          obtain ⟨r0, rfl⟩ : ∃ V, V = r1 := ⟨_, rfl⟩
          refine wpAnyH_ready (rs := [11]) (by kernel_rfl) (by simp) ?_
          refine AllReadyH.cons rfl (fun K hK => ?_) AllReadyH.nil
          go_simp
          refine (ents_same rv _ (M.take 0) _ HRV.out (isE_take HL1.out (Nat.zero_le _)) (by rw [List.length_take]; have := HMN.out; omega)).mono ?_
          rintro e r2 ⟨rfl, hb⟩
          have LB2 := Lib.hid (Blk.next (w := r0) LB1.out hb)
          have E2 := Lib.hid (E1.out.trans (hb.mono E1.out.size))
          clear hb
          go_wp2_with fail
          refine hK.out _ _ (sK _ LB2.out) (fun hHeld => ?_)
          clear hK K hHeld
          try simp only [Act.put, List.getElem_toArray, List.getElem_cons_zero, List.getElem_cons_succ, List.setIfInBounds_toArray, List.set_cons_zero, List.set_cons_succ]
          refine wpAnyH_take (i := 12) (v := ?_) rfl (by kernel_rfl) (by kernel_rfl) (by kernel_rfl) (fun _ _ _ h => h) (Or.inl ⟨by rfl, ?_⟩) (sK _ LB2.out) ?_
          rotate_left
          · (intro wS hSw; (try dsimp only at hSw); go_simp; try with_reducible rfl)
          simp only [Act.put, List.getElem_toArray, List.getElem_cons_zero, List.getElem_cons_succ, List.setIfInBounds_toArray, List.set_cons_zero, List.set_cons_succ]
          refine wpAnyH_take (i := 13) (v := ?_) rfl (by kernel_rfl) (by kernel_rfl) (by kernel_rfl) (fun _ _ _ h => h) (Or.inl ⟨by rfl, ?_⟩) (sK _ LB2.out) ?_
          rotate_left
          · (intro wS hSw; (try dsimp only at hSw); go_simp; try with_reducible rfl)
          simp only [Act.put, List.getElem_toArray, List.getElem_cons_zero, List.getElem_cons_succ, List.setIfInBounds_toArray, List.set_cons_zero, List.set_cons_succ]
          refine wpAnyH_done (by kernel_rfl) ?_ _
          go_wp2_with fail
          refine bodyPost_ret (v := .tuple #[(.slice none 0 0), .bool true]) (by simp [results, Try.results13, go_sem]) rfl ⟨_, v1, X1, M.drop 0, rfl, ⟨HH.out.fr (S := fun _ => False) ((Fr.refl _ r0).below E2.out) (fun q => q) (fun _ _ q => q), HPX.out, ord_drop HST.out.2.2.1 0, IsE.fr (S := fun _ => False) (by rw [List.drop_zero]; exact HL1.out) ((Fr.refl _ r0).below E2.out) (fun _ _ _ _ q => q), fun a n c e => ?_⟩, F1.out.below E2.out, fun i hi => Or.inl (HS.out i hi), by rw [List.length_drop]; omega⟩
          simp at e
        | some a0 =>
          by_cases hkc : 0 < c
          · have hkci : (0 : Int) < (c : Int) := by omega
            have hkci2 : (0 : Int) ≤ (c : Int) := by omega
            have kB0 : V1.cell? ⟨w.heap.size, 0, none⟩ = some (.int .i64 kind) := HB.out.cell 0
            have kB1 : V1.cell? ⟨w.heap.size, 1, none⟩ = some (.int .i64 t) := HB.out.cell 1
            have kB2 : V1.cell? ⟨w.heap.size, 2, none⟩ = some (.int .i64 d) := HB.out.cell 2
            have kB3 : V1.cell? ⟨w.heap.size, 3, none⟩ = some (.int .i64 f) := HB.out.cell 3
            go_wp2_with fail
            have sK : ∀ X, Blk X (w.heap.size) 35 #[.int .i64 kind, .int .i64 t, .int .i64 d, .int .i64 f] → (fun X => X.cell? ⟨w.heap.size, 0, none⟩ = some (.int .i64 kind) ∧ X.cell? ⟨w.heap.size, 1, none⟩ = some (.int .i64 t) ∧ X.cell? ⟨w.heap.size, 2, none⟩ = some (.int .i64 d) ∧ X.cell? ⟨w.heap.size, 3, none⟩ = some (.int .i64 f)) X := fun X hB => ⟨hB.cell 0, hB.cell 1, hB.cell 2, hB.cell 3⟩
            have LB0 := Lib.hid (HB.out.drew)
            have E0 := Lib.hid (EE.out.drew)
            clear kB0 kB1 kB2 kB3
            refine wp_region_held_drew (S := (fun X => X.cell? ⟨w.heap.size, 0, none⟩ = some (.int .i64 kind) ∧ X.cell? ⟨w.heap.size, 1, none⟩ = some (.int .i64 t) ∧ X.cell? ⟨w.heap.size, 2, none⟩ = some (.int .i64 d) ∧ X.cell? ⟨w.heap.size, 3, none⟩ = some (.int .i64 f))) (by kernel_rfl) (sK _ LB0.out) (fun hHeld => ?_)
            clear hHeld
            refine wpAnyH_take (i := 0) (v := ?_) rfl (by kernel_rfl) (by kernel_rfl) (by kernel_rfl) (fun _ _ _ h => h) (Or.inl ⟨by rfl, ?_⟩) (sK _ LB0.out) ?_
            rotate_left
            · (intro wS hSw; (try dsimp only at hSw); go_simp; try with_reducible rfl)
            simp only [Act.put, List.getElem_toArray, List.getElem_cons_zero, List.getElem_cons_succ, List.setIfInBounds_toArray, List.set_cons_zero, List.set_cons_succ]
            refine wpAnyH_take (i := 1) (v := ?_) rfl (by kernel_rfl) (by kernel_rfl) (by kernel_rfl) (fun _ _ _ h => h) (Or.inl ⟨by rfl, ?_⟩) (sK _ LB0.out) ?_
            rotate_left
            · (intro wS hSw; (try dsimp only at hSw); go_simp; try with_reducible rfl)
            simp only [Act.put, List.getElem_toArray, List.getElem_cons_zero, List.getElem_cons_succ, List.setIfInBounds_toArray, List.set_cons_zero, List.set_cons_succ]
            refine wpAnyH_take (i := 2) (v := ?_) rfl (by kernel_rfl) (by kernel_rfl) (by kernel_rfl) (fun _ _ _ h => h) (Or.inl ⟨by rfl, ?_⟩) (sK _ LB0.out) ?_
            rotate_left
            · (intro wS hSw; (try dsimp only at hSw); go_simp; try with_reducible rfl)
            simp only [Act.put, List.getElem_toArray, List.getElem_cons_zero, List.getElem_cons_succ, List.setIfInBounds_toArray, List.set_cons_zero, List.set_cons_succ]
            refine wpAnyH_take (i := 3) (v := ?_) rfl (by kernel_rfl) (by kernel_rfl) (by kernel_rfl) (fun _ _ _ h => h) (Or.inl ⟨by rfl, ?_⟩) (sK _ LB0.out) ?_
            rotate_left
            · (intro wS hSw; (try dsimp only at hSw); go_simp; try with_reducible rfl)
            simp only [Act.put, List.getElem_toArray, List.getElem_cons_zero, List.getElem_cons_succ, List.setIfInBounds_toArray, List.set_cons_zero, List.set_cons_succ]
            refine wpAnyH_take (i := 4) (v := ?_) rfl (by kernel_rfl) (by kernel_rfl) (by kernel_rfl) (fun _ _ _ h => h) (Or.inl ⟨by rfl, ?_⟩) (sK _ LB0.out) ?_
            rotate_left
            · (intro wS hSw; (try dsimp only at hSw); go_simp; try with_reducible rfl)
            simp only [Act.put, List.getElem_toArray, List.getElem_cons_zero, List.getElem_cons_succ, List.setIfInBounds_toArray, List.set_cons_zero, List.set_cons_succ]
            refine wpAnyH_take (i := 5) (v := ?_) rfl (by kernel_rfl) (by kernel_rfl) (by kernel_rfl) (fun _ _ _ h => h) (Or.inl ⟨by rfl, ?_⟩) (sK _ LB0.out) ?_
            rotate_left
            · (intro wS hSw; (try dsimp only at hSw); go_simp; try with_reducible rfl)
            simp only [Act.put, List.getElem_toArray, List.getElem_cons_zero, List.getElem_cons_succ, List.setIfInBounds_toArray, List.set_cons_zero, List.set_cons_succ]
            refine wpAnyH_take (i := 6) (v := ?_) rfl (by kernel_rfl) (by kernel_rfl) (by kernel_rfl) (fun _ _ _ h => h) (Or.inl ⟨by rfl, ?_⟩) (sK _ LB0.out) ?_
            rotate_left
            · (intro wS hSw; (try dsimp only at hSw); go_simp; try with_reducible rfl)
            simp only [Act.put, List.getElem_toArray, List.getElem_cons_zero, List.getElem_cons_succ, List.setIfInBounds_toArray, List.set_cons_zero, List.set_cons_succ]
            refine wpAnyH_take (i := 8) (v := ?_) rfl (by kernel_rfl) (by kernel_rfl) (by kernel_rfl) (fun _ _ _ h => h) (Or.inl ⟨by rfl, ?_⟩) (sK _ LB0.out) ?_
            rotate_left
            · (intro wS hSw; (try dsimp only at hSw); go_simp; try with_reducible rfl)
            simp only [Act.put, List.getElem_toArray, List.getElem_cons_zero, List.getElem_cons_succ, List.setIfInBounds_toArray, List.set_cons_zero, List.set_cons_succ]
            refine wpAnyH_take (i := 9) (v := ?_) rfl (by kernel_rfl) (by kernel_rfl) (by kernel_rfl) (fun _ _ _ h => h) (Or.inl ⟨by rfl, ?_⟩) (sK _ LB0.out) ?_
            rotate_left
            · (intro wS hSw; (try dsimp only at hSw); go_simp; try with_reducible rfl)
            simp only [Act.put, List.getElem_toArray, List.getElem_cons_zero, List.getElem_cons_succ, List.setIfInBounds_toArray, List.set_cons_zero, List.set_cons_succ]
            refine wpAnyH_take (i := 10) (v := ?_) rfl (by kernel_rfl) (by kernel_rfl) (by kernel_rfl) (fun _ _ _ h => h) (Or.inl ⟨by rfl, ?_⟩) (sK _ LB0.out) ?_
            rotate_left
            · (intro wS hSw; (try dsimp only at hSw); go_simp; try with_reducible rfl)
            simp only [Act.put, List.getElem_toArray, List.getElem_cons_zero, List.getElem_cons_succ, List.setIfInBounds_toArray, List.set_cons_zero, List.set_cons_succ]
            refine wpAnyH_ready (rs := [7]) (by kernel_rfl) (by simp) ?_
            refine AllReadyH.cons rfl (fun K hK => ?_) AllReadyH.nil
            go_simp
            have SD := (SV.out.none (Fr.refl _ V1).drew)
            refine (until_any B g v X M t _ SD.1 SD.2.1 SD.2.2.1 (by have := HM.out; omega) HX.out.1).mono ?_
            rintro e r1 ⟨k', v1, X1, rv, rfl, hk', hle, hgt, hrv, hpx, hh, hf, hs⟩
            obtain rfl := unt_unique (k := 0) (by have := HMN.out; omega) HLE.out HGT.out hk' hle hgt
            have LB1 := Lib.hid (LB0.out.fr hf HBN.out)
            have HRV := Lib.hid hrv; have HPX := Lib.hid hpx; have HH := Lib.hid hh; have HS := Lib.hid hs
            have HL1 : Hid (IsE r1 (.slice (some a0) 0 c) M) := Lib.hid (SD.2.2.2.1.fr hf (fun a n c e h => h.elim (fun q => (HST.out.2.2.2.2 a n c e).1 q) (fun q => (HST.out.2.2.2.2 a n c e).2 q)))
            have F1 : Hid (Fr (hpS g v) w r1) := Lib.hid (((Fr.refl (hpS g v) w).below EW.out).drew.trans hf (fun i _ q => q))
            have E1 : Hid (Below r1.heap.size r1 r1) := Lib.hid (Below.refl _ _)
            clear hk' hle hgt hrv hpx hh hf hs SD
            go_wp2_with fail
            refine hK.out _ _ (sK _ LB1.out) (fun hHeld => ?_)
            clear hK K hHeld
            try simp only [Act.put, List.getElem_toArray, List.getElem_cons_zero, List.getElem_cons_succ, List.setIfInBounds_toArray, List.set_cons_zero, List.set_cons_succ]
            obtain ⟨r0, rfl⟩ : ∃ V, V = r1 := ⟨_, rfl⟩
            refine wpAnyH_ready (rs := [11]) (by kernel_rfl) (by simp) ?_
            refine AllReadyH.cons rfl (fun K hK => ?_) AllReadyH.nil
            go_simp
            refine (ents_same rv _ (M.take 0) _ HRV.out (isE_take HL1.out (Nat.zero_le _)) (by rw [List.length_take]; have := HMN.out; omega)).mono ?_
            rintro e r2 ⟨rfl, hb⟩
            have LB2 := Lib.hid (Blk.next (w := r0) LB1.out hb)
            have E2 := Lib.hid (E1.out.trans (hb.mono E1.out.size))
            clear hb
            go_wp2_with fail
            refine hK.out _ _ (sK _ LB2.out) (fun hHeld => ?_)
            clear hK K hHeld
            try simp only [Act.put, List.getElem_toArray, List.getElem_cons_zero, List.getElem_cons_succ, List.setIfInBounds_toArray, List.set_cons_zero, List.set_cons_succ]
            refine wpAnyH_take (i := 12) (v := ?_) rfl (by kernel_rfl) (by kernel_rfl) (by kernel_rfl) (fun _ _ _ h => h) (Or.inl ⟨by rfl, ?_⟩) (sK _ LB2.out) ?_
            rotate_left
            · (intro wS hSw; (try dsimp only at hSw); go_simp; try with_reducible rfl)
            simp only [Act.put, List.getElem_toArray, List.getElem_cons_zero, List.getElem_cons_succ, List.setIfInBounds_toArray, List.set_cons_zero, List.set_cons_succ]
            refine wpAnyH_take (i := 13) (v := ?_) rfl (by kernel_rfl) (by kernel_rfl) (by kernel_rfl) (fun _ _ _ h => h) (Or.inl ⟨by rfl, ?_⟩) (sK _ LB2.out) ?_
            rotate_left
            · (intro wS hSw; (try dsimp only at hSw); go_simp; try with_reducible rfl)
            simp only [Act.put, List.getElem_toArray, List.getElem_cons_zero, List.getElem_cons_succ, List.setIfInBounds_toArray, List.set_cons_zero, List.set_cons_succ]
            refine wpAnyH_done (by kernel_rfl) ?_ _
            go_wp2_with fail
            refine bodyPost_ret (v := .tuple #[(.slice (some a0) 0 c), .bool true]) (by simp [results, Try.results13, go_sem]) rfl ⟨_, v1, X1, M.drop 0, rfl, ⟨HH.out.fr (S := fun _ => False) ((Fr.refl _ r0).below E2.out) (fun q => q) (fun _ _ q => q), HPX.out, ord_drop HST.out.2.2.1 0, IsE.fr (S := fun _ => False) (by rw [List.drop_zero]; exact HL1.out) ((Fr.refl _ r0).below E2.out) (fun _ _ _ _ q => q), fun a n c e => ?_⟩, F1.out.below E2.out, fun i hi => Or.inl (HS.out i hi), by rw [List.length_drop]; omega⟩
            have hb : a.block = (a0 : Addr).block := by simp at e; rw [← e.1]
            rw [hb]
            exact ⟨fun q => (HST.out.2.2.2.2 a0 _ _ rfl).1 q, fun q => (HST.out.2.2.2.2 a0 _ _ rfl).2 (HS.out _ q)⟩
          · obtain rfl : c = 0 := by omega
            have kB0 : V1.cell? ⟨w.heap.size, 0, none⟩ = some (.int .i64 kind) := HB.out.cell 0
            have kB1 : V1.cell? ⟨w.heap.size, 1, none⟩ = some (.int .i64 t) := HB.out.cell 1
            have kB2 : V1.cell? ⟨w.heap.size, 2, none⟩ = some (.int .i64 d) := HB.out.cell 2
            have kB3 : V1.cell? ⟨w.heap.size, 3, none⟩ = some (.int .i64 f) := HB.out.cell 3
            go_wp2_with fail
            have sK : ∀ X, Blk X (w.heap.size) 35 #[.int .i64 kind, .int .i64 t, .int .i64 d, .int .i64 f] → (fun X => X.cell? ⟨w.heap.size, 0, none⟩ = some (.int .i64 kind) ∧ X.cell? ⟨w.heap.size, 1, none⟩ = some (.int .i64 t) ∧ X.cell? ⟨w.heap.size, 2, none⟩ = some (.int .i64 d) ∧ X.cell? ⟨w.heap.size, 3, none⟩ = some (.int .i64 f)) X := fun X hB => ⟨hB.cell 0, hB.cell 1, hB.cell 2, hB.cell 3⟩
            have LB0 := Lib.hid (HB.out.drew)
            have E0 := Lib.hid (EE.out.drew)
            clear kB0 kB1 kB2 kB3
            refine wp_region_held_drew (S := (fun X => X.cell? ⟨w.heap.size, 0, none⟩ = some (.int .i64 kind) ∧ X.cell? ⟨w.heap.size, 1, none⟩ = some (.int .i64 t) ∧ X.cell? ⟨w.heap.size, 2, none⟩ = some (.int .i64 d) ∧ X.cell? ⟨w.heap.size, 3, none⟩ = some (.int .i64 f))) (by kernel_rfl) (sK _ LB0.out) (fun hHeld => ?_)
            clear hHeld
            refine wpAnyH_take (i := 0) (v := ?_) rfl (by kernel_rfl) (by kernel_rfl) (by kernel_rfl) (fun _ _ _ h => h) (Or.inl ⟨by rfl, ?_⟩) (sK _ LB0.out) ?_
            rotate_left
            · (intro wS hSw; (try dsimp only at hSw); go_simp; try with_reducible rfl)
            simp only [Act.put, List.getElem_toArray, List.getElem_cons_zero, List.getElem_cons_succ, List.setIfInBounds_toArray, List.set_cons_zero, List.set_cons_succ]
            refine wpAnyH_take (i := 1) (v := ?_) rfl (by kernel_rfl) (by kernel_rfl) (by kernel_rfl) (fun _ _ _ h => h) (Or.inl ⟨by rfl, ?_⟩) (sK _ LB0.out) ?_
            rotate_left
            · (intro wS hSw; (try dsimp only at hSw); go_simp; try with_reducible rfl)
            simp only [Act.put, List.getElem_toArray, List.getElem_cons_zero, List.getElem_cons_succ, List.setIfInBounds_toArray, List.set_cons_zero, List.set_cons_succ]
            refine wpAnyH_take (i := 2) (v := ?_) rfl (by kernel_rfl) (by kernel_rfl) (by kernel_rfl) (fun _ _ _ h => h) (Or.inl ⟨by rfl, ?_⟩) (sK _ LB0.out) ?_
            rotate_left
            · (intro wS hSw; (try dsimp only at hSw); go_simp; try with_reducible rfl)
            simp only [Act.put, List.getElem_toArray, List.getElem_cons_zero, List.getElem_cons_succ, List.setIfInBounds_toArray, List.set_cons_zero, List.set_cons_succ]
            refine wpAnyH_take (i := 3) (v := ?_) rfl (by kernel_rfl) (by kernel_rfl) (by kernel_rfl) (fun _ _ _ h => h) (Or.inl ⟨by rfl, ?_⟩) (sK _ LB0.out) ?_
            rotate_left
            · (intro wS hSw; (try dsimp only at hSw); go_simp; try with_reducible rfl)
            simp only [Act.put, List.getElem_toArray, List.getElem_cons_zero, List.getElem_cons_succ, List.setIfInBounds_toArray, List.set_cons_zero, List.set_cons_succ]
            refine wpAnyH_take (i := 4) (v := ?_) rfl (by kernel_rfl) (by kernel_rfl) (by kernel_rfl) (fun _ _ _ h => h) (Or.inl ⟨by rfl, ?_⟩) (sK _ LB0.out) ?_
            rotate_left
            · (intro wS hSw; (try dsimp only at hSw); go_simp; try with_reducible rfl)
            simp only [Act.put, List.getElem_toArray, List.getElem_cons_zero, List.getElem_cons_succ, List.setIfInBounds_toArray, List.set_cons_zero, List.set_cons_succ]
            refine wpAnyH_take (i := 5) (v := ?_) rfl (by kernel_rfl) (by kernel_rfl) (by kernel_rfl) (fun _ _ _ h => h) (Or.inl ⟨by rfl, ?_⟩) (sK _ LB0.out) ?_
            rotate_left
            · (intro wS hSw; (try dsimp only at hSw); go_simp; try with_reducible rfl)
            simp only [Act.put, List.getElem_toArray, List.getElem_cons_zero, List.getElem_cons_succ, List.setIfInBounds_toArray, List.set_cons_zero, List.set_cons_succ]
            refine wpAnyH_take (i := 6) (v := ?_) rfl (by kernel_rfl) (by kernel_rfl) (by kernel_rfl) (fun _ _ _ h => h) (Or.inl ⟨by rfl, ?_⟩) (sK _ LB0.out) ?_
            rotate_left
            · (intro wS hSw; (try dsimp only at hSw); go_simp; try with_reducible rfl)
            simp only [Act.put, List.getElem_toArray, List.getElem_cons_zero, List.getElem_cons_succ, List.setIfInBounds_toArray, List.set_cons_zero, List.set_cons_succ]
            refine wpAnyH_take (i := 8) (v := ?_) rfl (by kernel_rfl) (by kernel_rfl) (by kernel_rfl) (fun _ _ _ h => h) (Or.inl ⟨by rfl, ?_⟩) (sK _ LB0.out) ?_
            rotate_left
            · (intro wS hSw; (try dsimp only at hSw); go_simp; try with_reducible rfl)
            simp only [Act.put, List.getElem_toArray, List.getElem_cons_zero, List.getElem_cons_succ, List.setIfInBounds_toArray, List.set_cons_zero, List.set_cons_succ]
            refine wpAnyH_take (i := 9) (v := ?_) rfl (by kernel_rfl) (by kernel_rfl) (by kernel_rfl) (fun _ _ _ h => h) (Or.inl ⟨by rfl, ?_⟩) (sK _ LB0.out) ?_
            rotate_left
            · (intro wS hSw; (try dsimp only at hSw); go_simp; try with_reducible rfl)
            simp only [Act.put, List.getElem_toArray, List.getElem_cons_zero, List.getElem_cons_succ, List.setIfInBounds_toArray, List.set_cons_zero, List.set_cons_succ]
            refine wpAnyH_take (i := 10) (v := ?_) rfl (by kernel_rfl) (by kernel_rfl) (by kernel_rfl) (fun _ _ _ h => h) (Or.inl ⟨by rfl, ?_⟩) (sK _ LB0.out) ?_
            rotate_left
            · (intro wS hSw; (try dsimp only at hSw); go_simp; try with_reducible rfl)
            simp only [Act.put, List.getElem_toArray, List.getElem_cons_zero, List.getElem_cons_succ, List.setIfInBounds_toArray, List.set_cons_zero, List.set_cons_succ]
            refine wpAnyH_ready (rs := [7]) (by kernel_rfl) (by simp) ?_
            refine AllReadyH.cons rfl (fun K hK => ?_) AllReadyH.nil
            go_simp
            have SD := (SV.out.none (Fr.refl _ V1).drew)
            refine (until_any B g v X M t _ SD.1 SD.2.1 SD.2.2.1 (by have := HM.out; omega) HX.out.1).mono ?_
            rintro e r1 ⟨k', v1, X1, rv, rfl, hk', hle, hgt, hrv, hpx, hh, hf, hs⟩
            obtain rfl := unt_unique (k := 0) (by have := HMN.out; omega) HLE.out HGT.out hk' hle hgt
            have LB1 := Lib.hid (LB0.out.fr hf HBN.out)
            have HRV := Lib.hid hrv; have HPX := Lib.hid hpx; have HH := Lib.hid hh; have HS := Lib.hid hs
            have HL1 : Hid (IsE r1 (.slice (some a0) 0 0) M) := Lib.hid (SD.2.2.2.1.fr hf (fun a n c e h => h.elim (fun q => (HST.out.2.2.2.2 a n c e).1 q) (fun q => (HST.out.2.2.2.2 a n c e).2 q)))
            have F1 : Hid (Fr (hpS g v) w r1) := Lib.hid (((Fr.refl (hpS g v) w).below EW.out).drew.trans hf (fun i _ q => q))
            have E1 : Hid (Below r1.heap.size r1 r1) := Lib.hid (Below.refl _ _)
            clear hk' hle hgt hrv hpx hh hf hs SD
            go_wp2_with fail
            refine hK.out _ _ (sK _ LB1.out) (fun hHeld => ?_)
            clear hK K hHeld
            try simp only [Act.put, List.getElem_toArray, List.getElem_cons_zero, List.getElem_cons_succ, List.setIfInBounds_toArray, List.set_cons_zero, List.set_cons_succ]
            obtain ⟨r0, rfl⟩ : ∃ V, V = r1 := ⟨_, rfl⟩
            refine wpAnyH_ready (rs := [11]) (by kernel_rfl) (by simp) ?_
            refine AllReadyH.cons rfl (fun K hK => ?_) AllReadyH.nil
            go_simp
            refine (ents_same rv _ (M.take 0) _ HRV.out (isE_take HL1.out (Nat.zero_le _)) (by rw [List.length_take]; have := HMN.out; omega)).mono ?_
            rintro e r2 ⟨rfl, hb⟩
            have LB2 := Lib.hid (Blk.next (w := r0) LB1.out hb)
            have E2 := Lib.hid (E1.out.trans (hb.mono E1.out.size))
            clear hb
            go_wp2_with fail
            refine hK.out _ _ (sK _ LB2.out) (fun hHeld => ?_)
            clear hK K hHeld
            try simp only [Act.put, List.getElem_toArray, List.getElem_cons_zero, List.getElem_cons_succ, List.setIfInBounds_toArray, List.set_cons_zero, List.set_cons_succ]
            refine wpAnyH_take (i := 12) (v := ?_) rfl (by kernel_rfl) (by kernel_rfl) (by kernel_rfl) (fun _ _ _ h => h) (Or.inl ⟨by rfl, ?_⟩) (sK _ LB2.out) ?_
            rotate_left
            · (intro wS hSw; (try dsimp only at hSw); go_simp; try with_reducible rfl)
            simp only [Act.put, List.getElem_toArray, List.getElem_cons_zero, List.getElem_cons_succ, List.setIfInBounds_toArray, List.set_cons_zero, List.set_cons_succ]
            refine wpAnyH_take (i := 13) (v := ?_) rfl (by kernel_rfl) (by kernel_rfl) (by kernel_rfl) (fun _ _ _ h => h) (Or.inl ⟨by rfl, ?_⟩) (sK _ LB2.out) ?_
            rotate_left
            · (intro wS hSw; (try dsimp only at hSw); go_simp; try with_reducible rfl)
            simp only [Act.put, List.getElem_toArray, List.getElem_cons_zero, List.getElem_cons_succ, List.setIfInBounds_toArray, List.set_cons_zero, List.set_cons_succ]
            refine wpAnyH_done (by kernel_rfl) ?_ _
            go_wp2_with fail
            refine bodyPost_ret (v := .tuple #[(.slice (some a0) 0 0), .bool true]) (by simp [results, Try.results13, go_sem]) rfl ⟨_, v1, X1, M.drop 0, rfl, ⟨HH.out.fr (S := fun _ => False) ((Fr.refl _ r0).below E2.out) (fun q => q) (fun _ _ q => q), HPX.out, ord_drop HST.out.2.2.1 0, IsE.fr (S := fun _ => False) (by rw [List.drop_zero]; exact HL1.out) ((Fr.refl _ r0).below E2.out) (fun _ _ _ _ q => q), fun a n c e => ?_⟩, F1.out.below E2.out, fun i hi => Or.inl (HS.out i hi), by rw [List.length_drop]; omega⟩
            have hb : a.block = (a0 : Addr).block := by simp at e; rw [← e.1]
            rw [hb]
            exact ⟨fun q => (HST.out.2.2.2.2 a0 _ _ rfl).1 q, fun q => (HST.out.2.2.2.2 a0 _ _ rfl).2 (HS.out _ q)⟩
      · obtain ⟨b, o, rfl⟩ := HAW.out hn0
        by_cases hkc : k < c
        · have hkci : (k : Int) < (c : Int) := by omega
          have hkci2 : (k : Int) ≤ (c : Int) := by omega
          have hkc' : k ≤ c := by omega
          have hkni : (k : Int) ≤ (n : Int) := by omega
          have kB0 : V1.cell? ⟨w.heap.size, 0, none⟩ = some (.int .i64 kind) := HB.out.cell 0
          have kB1 : V1.cell? ⟨w.heap.size, 1, none⟩ = some (.int .i64 t) := HB.out.cell 1
          have kB2 : V1.cell? ⟨w.heap.size, 2, none⟩ = some (.int .i64 d) := HB.out.cell 2
          have kB3 : V1.cell? ⟨w.heap.size, 3, none⟩ = some (.int .i64 f) := HB.out.cell 3
          go_wp2_with fail
          have sK : ∀ X, Blk X (w.heap.size) 35 #[.int .i64 kind, .int .i64 t, .int .i64 d, .int .i64 f] → (fun X => X.cell? ⟨w.heap.size, 0, none⟩ = some (.int .i64 kind) ∧ X.cell? ⟨w.heap.size, 1, none⟩ = some (.int .i64 t) ∧ X.cell? ⟨w.heap.size, 2, none⟩ = some (.int .i64 d) ∧ X.cell? ⟨w.heap.size, 3, none⟩ = some (.int .i64 f)) X := fun X hB => ⟨hB.cell 0, hB.cell 1, hB.cell 2, hB.cell 3⟩
          have LB0 := Lib.hid (HB.out.drew)
          have E0 := Lib.hid (EE.out.drew)
          clear kB0 kB1 kB2 kB3
          refine wp_region_held_drew (S := (fun X => X.cell? ⟨w.heap.size, 0, none⟩ = some (.int .i64 kind) ∧ X.cell? ⟨w.heap.size, 1, none⟩ = some (.int .i64 t) ∧ X.cell? ⟨w.heap.size, 2, none⟩ = some (.int .i64 d) ∧ X.cell? ⟨w.heap.size, 3, none⟩ = some (.int .i64 f))) (by kernel_rfl) (sK _ LB0.out) (fun hHeld => ?_)
          clear hHeld
          refine wpAnyH_take (i := 0) (v := ?_) rfl (by kernel_rfl) (by kernel_rfl) (by kernel_rfl) (fun _ _ _ h => h) (Or.inl ⟨by rfl, ?_⟩) (sK _ LB0.out) ?_
          rotate_left
          · (intro wS hSw; (try dsimp only at hSw); go_simp; try with_reducible rfl)
          simp only [Act.put, List.getElem_toArray, List.getElem_cons_zero, List.getElem_cons_succ, List.setIfInBounds_toArray, List.set_cons_zero, List.set_cons_succ]
          refine wpAnyH_take (i := 1) (v := ?_) rfl (by kernel_rfl) (by kernel_rfl) (by kernel_rfl) (fun _ _ _ h => h) (Or.inl ⟨by rfl, ?_⟩) (sK _ LB0.out) ?_
          rotate_left
          · (intro wS hSw; (try dsimp only at hSw); go_simp; try with_reducible rfl)
          simp only [Act.put, List.getElem_toArray, List.getElem_cons_zero, List.getElem_cons_succ, List.setIfInBounds_toArray, List.set_cons_zero, List.set_cons_succ]
          refine wpAnyH_take (i := 2) (v := ?_) rfl (by kernel_rfl) (by kernel_rfl) (by kernel_rfl) (fun _ _ _ h => h) (Or.inl ⟨by rfl, ?_⟩) (sK _ LB0.out) ?_
          rotate_left
          · (intro wS hSw; (try dsimp only at hSw); go_simp; try with_reducible rfl)
          simp only [Act.put, List.getElem_toArray, List.getElem_cons_zero, List.getElem_cons_succ, List.setIfInBounds_toArray, List.set_cons_zero, List.set_cons_succ]
          refine wpAnyH_take (i := 3) (v := ?_) rfl (by kernel_rfl) (by kernel_rfl) (by kernel_rfl) (fun _ _ _ h => h) (Or.inl ⟨by rfl, ?_⟩) (sK _ LB0.out) ?_
          rotate_left
          · (intro wS hSw; (try dsimp only at hSw); go_simp; try with_reducible rfl)
          simp only [Act.put, List.getElem_toArray, List.getElem_cons_zero, List.getElem_cons_succ, List.setIfInBounds_toArray, List.set_cons_zero, List.set_cons_succ]
          refine wpAnyH_take (i := 4) (v := ?_) rfl (by kernel_rfl) (by kernel_rfl) (by kernel_rfl) (fun _ _ _ h => h) (Or.inl ⟨by rfl, ?_⟩) (sK _ LB0.out) ?_
          rotate_left
          · (intro wS hSw; (try dsimp only at hSw); go_simp; try with_reducible rfl)
          simp only [Act.put, List.getElem_toArray, List.getElem_cons_zero, List.getElem_cons_succ, List.setIfInBounds_toArray, List.set_cons_zero, List.set_cons_succ]
          refine wpAnyH_take (i := 5) (v := ?_) rfl (by kernel_rfl) (by kernel_rfl) (by kernel_rfl) (fun _ _ _ h => h) (Or.inl ⟨by rfl, ?_⟩) (sK _ LB0.out) ?_
          rotate_left
          · (intro wS hSw; (try dsimp only at hSw); go_simp; try with_reducible rfl)
          simp only [Act.put, List.getElem_toArray, List.getElem_cons_zero, List.getElem_cons_succ, List.setIfInBounds_toArray, List.set_cons_zero, List.set_cons_succ]
          refine wpAnyH_take (i := 6) (v := ?_) rfl (by kernel_rfl) (by kernel_rfl) (by kernel_rfl) (fun _ _ _ h => h) (Or.inl ⟨by rfl, ?_⟩) (sK _ LB0.out) ?_
          rotate_left
          · (intro wS hSw; (try dsimp only at hSw); go_simp; try with_reducible rfl)
          simp only [Act.put, List.getElem_toArray, List.getElem_cons_zero, List.getElem_cons_succ, List.setIfInBounds_toArray, List.set_cons_zero, List.set_cons_succ]
          refine wpAnyH_take (i := 8) (v := ?_) rfl (by kernel_rfl) (by kernel_rfl) (by kernel_rfl) (fun _ _ _ h => h) (Or.inl ⟨by rfl, ?_⟩) (sK _ LB0.out) ?_
          rotate_left
          · (intro wS hSw; (try dsimp only at hSw); go_simp; try with_reducible rfl)
          simp only [Act.put, List.getElem_toArray, List.getElem_cons_zero, List.getElem_cons_succ, List.setIfInBounds_toArray, List.set_cons_zero, List.set_cons_succ]
          refine wpAnyH_take (i := 9) (v := ?_) rfl (by kernel_rfl) (by kernel_rfl) (by kernel_rfl) (fun _ _ _ h => h) (Or.inl ⟨by rfl, ?_⟩) (sK _ LB0.out) ?_
          rotate_left
          · (intro wS hSw; (try dsimp only at hSw); go_simp; try with_reducible rfl)
          simp only [Act.put, List.getElem_toArray, List.getElem_cons_zero, List.getElem_cons_succ, List.setIfInBounds_toArray, List.set_cons_zero, List.set_cons_succ]
          refine wpAnyH_take (i := 10) (v := ?_) rfl (by kernel_rfl) (by kernel_rfl) (by kernel_rfl) (fun _ _ _ h => h) (Or.inl ⟨by rfl, ?_⟩) (sK _ LB0.out) ?_
          rotate_left
          · (intro wS hSw; (try dsimp only at hSw); go_simp; try with_reducible rfl)
          simp only [Act.put, List.getElem_toArray, List.getElem_cons_zero, List.getElem_cons_succ, List.setIfInBounds_toArray, List.set_cons_zero, List.set_cons_succ]
          refine wpAnyH_ready (rs := [7]) (by kernel_rfl) (by simp) ?_
          refine AllReadyH.cons rfl (fun K hK => ?_) AllReadyH.nil
          go_simp
          have SD := (SV.out.none (Fr.refl _ V1).drew)
          refine (until_any B g v X M t _ SD.1 SD.2.1 SD.2.2.1 (by have := HM.out; omega) HX.out.1).mono ?_
          rintro e r1 ⟨k', v1, X1, rv, rfl, hk', hle, hgt, hrv, hpx, hh, hf, hs⟩
          obtain rfl := unt_unique (k := k) (by have := HMN.out; omega) HLE.out HGT.out hk' hle hgt
          have LB1 := Lib.hid (LB0.out.fr hf HBN.out)
          have HRV := Lib.hid hrv; have HPX := Lib.hid hpx; have HH := Lib.hid hh; have HS := Lib.hid hs
          have HL1 : Hid (IsE r1 (.slice (some ⟨b, o, none⟩) n c) M) := Lib.hid (SD.2.2.2.1.fr hf (fun a n c e h => h.elim (fun q => (HST.out.2.2.2.2 a n c e).1 q) (fun q => (HST.out.2.2.2.2 a n c e).2 q)))
          have F1 : Hid (Fr (hpS g v) w r1) := Lib.hid (((Fr.refl (hpS g v) w).below EW.out).drew.trans hf (fun i _ q => q))
          have E1 : Hid (Below r1.heap.size r1 r1) := Lib.hid (Below.refl _ _)
          clear hk' hle hgt hrv hpx hh hf hs SD
          go_wp2_with fail
          refine hK.out _ _ (sK _ LB1.out) (fun hHeld => ?_)
          clear hK K hHeld
          try simp only [Act.put, List.getElem_toArray, List.getElem_cons_zero, List.getElem_cons_succ, List.setIfInBounds_toArray, List.set_cons_zero, List.set_cons_succ]
          obtain ⟨r0, rfl⟩ : ∃ V, V = r1 := ⟨_, rfl⟩
          refine wpAnyH_ready (rs := [11]) (by kernel_rfl) (by simp) ?_
          refine AllReadyH.cons rfl (fun K hK => ?_) AllReadyH.nil
          go_simp
          refine (ents_same rv _ (M.take k) _ HRV.out (isE_take HL1.out hk) (by rw [List.length_take]; have := HMN.out; omega)).mono ?_
          rintro e r2 ⟨rfl, hb⟩
          have LB2 := Lib.hid (Blk.next (w := r0) LB1.out hb)
          have E2 := Lib.hid (E1.out.trans (hb.mono E1.out.size))
          clear hb
          go_wp2_with fail
          refine hK.out _ _ (sK _ LB2.out) (fun hHeld => ?_)
          clear hK K hHeld
          try simp only [Act.put, List.getElem_toArray, List.getElem_cons_zero, List.getElem_cons_succ, List.setIfInBounds_toArray, List.set_cons_zero, List.set_cons_succ]
          refine wpAnyH_take (i := 12) (v := ?_) rfl (by kernel_rfl) (by kernel_rfl) (by kernel_rfl) (fun _ _ _ h => h) (Or.inl ⟨by rfl, ?_⟩) (sK _ LB2.out) ?_
          rotate_left
          · (intro wS hSw; (try dsimp only at hSw); go_simp; try with_reducible rfl)
          simp only [Act.put, List.getElem_toArray, List.getElem_cons_zero, List.getElem_cons_succ, List.setIfInBounds_toArray, List.set_cons_zero, List.set_cons_succ]
          refine wpAnyH_take (i := 13) (v := ?_) rfl (by kernel_rfl) (by kernel_rfl) (by kernel_rfl) (fun _ _ _ h => h) (Or.inl ⟨by rfl, ?_⟩) (sK _ LB2.out) ?_
          rotate_left
          · (intro wS hSw; (try dsimp only at hSw); go_simp; try with_reducible rfl)
          simp only [Act.put, List.getElem_toArray, List.getElem_cons_zero, List.getElem_cons_succ, List.setIfInBounds_toArray, List.set_cons_zero, List.set_cons_succ]
          refine wpAnyH_done (by kernel_rfl) ?_ _
          go_wp2_with fail
          refine bodyPost_ret (v := .tuple #[(.slice (some ⟨b, o + k * 3, none⟩) (n - k) (c - k)), .bool true]) (by simp [results, Try.results13, go_sem]) rfl ⟨_, v1, X1, M.drop k, rfl, ⟨HH.out.fr (S := fun _ => False) ((Fr.refl _ r0).below E2.out) (fun q => q) (fun _ _ q => q), HPX.out, ord_drop HST.out.2.2.1 k, IsE.fr (S := fun _ => False) (isE_drop HL1.out hk) ((Fr.refl _ r0).below E2.out) (fun _ _ _ _ q => q), fun a n c e => ?_⟩, F1.out.below E2.out, fun i hi => Or.inl (HS.out i hi), by rw [List.length_drop]; omega⟩
          have hb : a.block = (⟨b, o, none⟩ : Addr).block := by simp at e; rw [← e.1]
          rw [hb]
          exact ⟨fun q => (HST.out.2.2.2.2 ⟨b, o, none⟩ _ _ rfl).1 q, fun q => (HST.out.2.2.2.2 ⟨b, o, none⟩ _ _ rfl).2 (HS.out _ q)⟩
        · have ekn : n = k := by omega
          have ecn : c = k := by omega
          subst ekn
          subst ecn
          have hkni : (c : Int) ≤ (c : Int) := Int.le_refl _
          have hkk : c - c = 0 := Nat.sub_self c
          have kB0 : V1.cell? ⟨w.heap.size, 0, none⟩ = some (.int .i64 kind) := HB.out.cell 0
          have kB1 : V1.cell? ⟨w.heap.size, 1, none⟩ = some (.int .i64 t) := HB.out.cell 1
          have kB2 : V1.cell? ⟨w.heap.size, 2, none⟩ = some (.int .i64 d) := HB.out.cell 2
          have kB3 : V1.cell? ⟨w.heap.size, 3, none⟩ = some (.int .i64 f) := HB.out.cell 3
          go_wp2_with fail
          have sK : ∀ X, Blk X (w.heap.size) 35 #[.int .i64 kind, .int .i64 t, .int .i64 d, .int .i64 f] → (fun X => X.cell? ⟨w.heap.size, 0, none⟩ = some (.int .i64 kind) ∧ X.cell? ⟨w.heap.size, 1, none⟩ = some (.int .i64 t) ∧ X.cell? ⟨w.heap.size, 2, none⟩ = some (.int .i64 d) ∧ X.cell? ⟨w.heap.size, 3, none⟩ = some (.int .i64 f)) X := fun X hB => ⟨hB.cell 0, hB.cell 1, hB.cell 2, hB.cell 3⟩
          have LB0 := Lib.hid (HB.out.drew)
          have E0 := Lib.hid (EE.out.drew)
          clear kB0 kB1 kB2 kB3
          refine wp_region_held_drew (S := (fun X => X.cell? ⟨w.heap.size, 0, none⟩ = some (.int .i64 kind) ∧ X.cell? ⟨w.heap.size, 1, none⟩ = some (.int .i64 t) ∧ X.cell? ⟨w.heap.size, 2, none⟩ = some (.int .i64 d) ∧ X.cell? ⟨w.heap.size, 3, none⟩ = some (.int .i64 f))) (by kernel_rfl) (sK _ LB0.out) (fun hHeld => ?_)
          clear hHeld
          refine wpAnyH_take (i := 0) (v := ?_) rfl (by kernel_rfl) (by kernel_rfl) (by kernel_rfl) (fun _ _ _ h => h) (Or.inl ⟨by rfl, ?_⟩) (sK _ LB0.out) ?_
          rotate_left
          · (intro wS hSw; (try dsimp only at hSw); go_simp; try with_reducible rfl)
          simp only [Act.put, List.getElem_toArray, List.getElem_cons_zero, List.getElem_cons_succ, List.setIfInBounds_toArray, List.set_cons_zero, List.set_cons_succ]
          refine wpAnyH_take (i := 1) (v := ?_) rfl (by kernel_rfl) (by kernel_rfl) (by kernel_rfl) (fun _ _ _ h => h) (Or.inl ⟨by rfl, ?_⟩) (sK _ LB0.out) ?_
          rotate_left
          · (intro wS hSw; (try dsimp only at hSw); go_simp; try with_reducible rfl)
          simp only [Act.put, List.getElem_toArray, List.getElem_cons_zero, List.getElem_cons_succ, List.setIfInBounds_toArray, List.set_cons_zero, List.set_cons_succ]
          refine wpAnyH_take (i := 2) (v := ?_) rfl (by kernel_rfl) (by kernel_rfl) (by kernel_rfl) (fun _ _ _ h => h) (Or.inl ⟨by rfl, ?_⟩) (sK _ LB0.out) ?_
          rotate_left
          · (intro wS hSw; (try dsimp only at hSw); go_simp; try with_reducible rfl)
          simp only [Act.put, List.getElem_toArray, List.getElem_cons_zero, List.getElem_cons_succ, List.setIfInBounds_toArray, List.set_cons_zero, List.set_cons_succ]
          refine wpAnyH_take (i := 3) (v := ?_) rfl (by kernel_rfl) (by kernel_rfl) (by kernel_rfl) (fun _ _ _ h => h) (Or.inl ⟨by rfl, ?_⟩) (sK _ LB0.out) ?_
          rotate_left
          · (intro wS hSw; (try dsimp only at hSw); go_simp; try with_reducible rfl)
          simp only [Act.put, List.getElem_toArray, List.getElem_cons_zero, List.getElem_cons_succ, List.setIfInBounds_toArray, List.set_cons_zero, List.set_cons_succ]
          refine wpAnyH_take (i := 4) (v := ?_) rfl (by kernel_rfl) (by kernel_rfl) (by kernel_rfl) (fun _ _ _ h => h) (Or.inl ⟨by rfl, ?_⟩) (sK _ LB0.out) ?_
          rotate_left
          · (intro wS hSw; (try dsimp only at hSw); go_simp; try with_reducible rfl)
          simp only [Act.put, List.getElem_toArray, List.getElem_cons_zero, List.getElem_cons_succ, List.setIfInBounds_toArray, List.set_cons_zero, List.set_cons_succ]
          refine wpAnyH_take (i := 5) (v := ?_) rfl (by kernel_rfl) (by kernel_rfl) (by kernel_rfl) (fun _ _ _ h => h) (Or.inl ⟨by rfl, ?_⟩) (sK _ LB0.out) ?_
          rotate_left
          · (intro wS hSw; (try dsimp only at hSw); go_simp; try with_reducible rfl)
          simp only [Act.put, List.getElem_toArray, List.getElem_cons_zero, List.getElem_cons_succ, List.setIfInBounds_toArray, List.set_cons_zero, List.set_cons_succ]
          refine wpAnyH_take (i := 6) (v := ?_) rfl (by kernel_rfl) (by kernel_rfl) (by kernel_rfl) (fun _ _ _ h => h) (Or.inl ⟨by rfl, ?_⟩) (sK _ LB0.out) ?_
          rotate_left
          · (intro wS hSw; (try dsimp only at hSw); go_simp; try with_reducible rfl)
          simp only [Act.put, List.getElem_toArray, List.getElem_cons_zero, List.getElem_cons_succ, List.setIfInBounds_toArray, List.set_cons_zero, List.set_cons_succ]
          refine wpAnyH_take (i := 8) (v := ?_) rfl (by kernel_rfl) (by kernel_rfl) (by kernel_rfl) (fun _ _ _ h => h) (Or.inl ⟨by rfl, ?_⟩) (sK _ LB0.out) ?_
          rotate_left
          · (intro wS hSw; (try dsimp only at hSw); go_simp; try with_reducible rfl)
          simp only [Act.put, List.getElem_toArray, List.getElem_cons_zero, List.getElem_cons_succ, List.setIfInBounds_toArray, List.set_cons_zero, List.set_cons_succ]
          refine wpAnyH_take (i := 9) (v := ?_) rfl (by kernel_rfl) (by kernel_rfl) (by kernel_rfl) (fun _ _ _ h => h) (Or.inl ⟨by rfl, ?_⟩) (sK _ LB0.out) ?_
          rotate_left
          · (intro wS hSw; (try dsimp only at hSw); go_simp; try with_reducible rfl)
          simp only [Act.put, List.getElem_toArray, List.getElem_cons_zero, List.getElem_cons_succ, List.setIfInBounds_toArray, List.set_cons_zero, List.set_cons_succ]
          refine wpAnyH_take (i := 10) (v := ?_) rfl (by kernel_rfl) (by kernel_rfl) (by kernel_rfl) (fun _ _ _ h => h) (Or.inl ⟨by rfl, ?_⟩) (sK _ LB0.out) ?_
          rotate_left
          · (intro wS hSw; (try dsimp only at hSw); go_simp; try with_reducible rfl)
          simp only [Act.put, List.getElem_toArray, List.getElem_cons_zero, List.getElem_cons_succ, List.setIfInBounds_toArray, List.set_cons_zero, List.set_cons_succ]
          refine wpAnyH_ready (rs := [7]) (by kernel_rfl) (by simp) ?_
          refine AllReadyH.cons rfl (fun K hK => ?_) AllReadyH.nil
          go_simp
          have SD := (SV.out.none (Fr.refl _ V1).drew)
          refine (until_any B g v X M t _ SD.1 SD.2.1 SD.2.2.1 (by have := HM.out; omega) HX.out.1).mono ?_
          rintro e r1 ⟨k', v1, X1, rv, rfl, hk', hle, hgt, hrv, hpx, hh, hf, hs⟩
          obtain rfl := unt_unique (k := c) (by have := HMN.out; omega) HLE.out HGT.out hk' hle hgt
          have LB1 := Lib.hid (LB0.out.fr hf HBN.out)
          have HRV := Lib.hid hrv; have HPX := Lib.hid hpx; have HH := Lib.hid hh; have HS := Lib.hid hs
          have HL1 : Hid (IsE r1 (.slice (some ⟨b, o, none⟩) c c) M) := Lib.hid (SD.2.2.2.1.fr hf (fun a n c e h => h.elim (fun q => (HST.out.2.2.2.2 a n c e).1 q) (fun q => (HST.out.2.2.2.2 a n c e).2 q)))
          have F1 : Hid (Fr (hpS g v) w r1) := Lib.hid (((Fr.refl (hpS g v) w).below EW.out).drew.trans hf (fun i _ q => q))
          have E1 : Hid (Below r1.heap.size r1 r1) := Lib.hid (Below.refl _ _)
          clear hk' hle hgt hrv hpx hh hf hs SD
          go_wp2_with fail
          refine hK.out _ _ (sK _ LB1.out) (fun hHeld => ?_)
          clear hK K hHeld
          try simp only [Act.put, List.getElem_toArray, List.getElem_cons_zero, List.getElem_cons_succ, List.setIfInBounds_toArray, List.set_cons_zero, List.set_cons_succ]
          obtain ⟨r0, rfl⟩ : ∃ V, V = r1 := ⟨_, rfl⟩
          refine wpAnyH_ready (rs := [11]) (by kernel_rfl) (by simp) ?_
          refine AllReadyH.cons rfl (fun K hK => ?_) AllReadyH.nil
          go_simp
          refine (ents_same rv _ (M.take c) _ HRV.out (isE_take HL1.out hk) (by rw [List.length_take]; have := HMN.out; omega)).mono ?_
          rintro e r2 ⟨rfl, hb⟩
          have LB2 := Lib.hid (Blk.next (w := r0) LB1.out hb)
          have E2 := Lib.hid (E1.out.trans (hb.mono E1.out.size))
          clear hb
          go_wp2_with fail
          refine hK.out _ _ (sK _ LB2.out) (fun hHeld => ?_)
          clear hK K hHeld
          try simp only [Act.put, List.getElem_toArray, List.getElem_cons_zero, List.getElem_cons_succ, List.setIfInBounds_toArray, List.set_cons_zero, List.set_cons_succ]
          refine wpAnyH_take (i := 12) (v := ?_) rfl (by kernel_rfl) (by kernel_rfl) (by kernel_rfl) (fun _ _ _ h => h) (Or.inl ⟨by rfl, ?_⟩) (sK _ LB2.out) ?_
          rotate_left
          · (intro wS hSw; (try dsimp only at hSw); go_simp; try with_reducible rfl)
          simp only [Act.put, List.getElem_toArray, List.getElem_cons_zero, List.getElem_cons_succ, List.setIfInBounds_toArray, List.set_cons_zero, List.set_cons_succ]
          refine wpAnyH_take (i := 13) (v := ?_) rfl (by kernel_rfl) (by kernel_rfl) (by kernel_rfl) (fun _ _ _ h => h) (Or.inl ⟨by rfl, ?_⟩) (sK _ LB2.out) ?_
          rotate_left
          · (intro wS hSw; (try dsimp only at hSw); go_simp; try with_reducible rfl)
          simp only [Act.put, List.getElem_toArray, List.getElem_cons_zero, List.getElem_cons_succ, List.setIfInBounds_toArray, List.set_cons_zero, List.set_cons_succ]
          refine wpAnyH_done (by kernel_rfl) ?_ _
          go_wp2_with fail
          refine bodyPost_ret (v := .tuple #[(.slice (some ⟨b, o, none⟩) 0 0), .bool true]) (by simp [results, Try.results13, go_sem]) rfl ⟨_, v1, X1, M.drop c, rfl, ⟨HH.out.fr (S := fun _ => False) ((Fr.refl _ r0).below E2.out) (fun q => q) (fun _ _ q => q), HPX.out, ord_drop HST.out.2.2.1 c, IsE.fr (S := fun _ => False) (by rw [List.drop_eq_nil_of_le (by have := HMN.out; omega)]; exact isE_empty _ _ 0 (Nat.zero_le _)) ((Fr.refl _ r0).below E2.out) (fun _ _ _ _ q => q), fun a n c e => ?_⟩, F1.out.below E2.out, fun i hi => Or.inl (HS.out i hi), by rw [List.length_drop]; omega⟩
          have hb : a.block = (⟨b, o, none⟩ : Addr).block := by simp at e; rw [← e.1]
          rw [hb]
          exact ⟨fun q => (HST.out.2.2.2.2 ⟨b, o, none⟩ _ _ rfl).1 q, fun q => (HST.out.2.2.2.2 ⟨b, o, none⟩ _ _ rfl).2 (HS.out _ q)⟩
end Go.Proofs.Ytobeppajomhfjaa
