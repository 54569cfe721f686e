/- A heap of entries: an entry rises, sinks. -/
import Derived.Test.YtobeppajomhfjaaHeapN
import Derived.WalkKit
import Derived.IntWalk
import Derived.Lib.Hide
import Derived.WalkSpells
import Derived.WalkLawsBesides
import Derived.OwnWalk
import Derived.BigRegion
import Derived.Deep.LoopGhost
import Derived.Deep.RegionHeld3
import Derived.Deep.QuietTactic
import Derived.BigQuiet
import Derived.Laws.CopyOwn
import Derived.Laws.MakeOwn
import Derived.Laws.OwnMore
import Derived.Laws.AppendOwnNone
namespace Go.Proofs.Ytobeppajomhfjaa
open Go.RowKit
set_option linter.unusedVariables false
set_option linter.unusedSimpArgs false
set_option maxRecDepth 100000 in
set_option maxHeartbeats 40000000 in
theorem sink_any (B g r c k n : Nat) (L : List Ent) (w : World) (hb : Blk w g 55 #[.slice (some ⟨r, 0, none⟩) n c]) (hne : g ≠ r) (hn : L.length = n) (ho : w.ownsRow B 24 3 (.slice (some ⟨r, 0, none⟩) n c) n (rowM 3 (zE L) n)) (hi : SinkI L k) (hk : k ≤ n) (hl : n ≤ 100000) :
    Calls Try.prog 36 #[.pointer (some ⟨g, 0, none⟩), .int .i64 k] w (RisR B r n c L w) := by
  have HB := Lib.hid hb; have HN := Lib.hid hn; have HO := Lib.hid ho; have HI := Lib.hid hi
  clear hb hn ho hi
  go_enter Try.func36, Try.ntmps36
  go_wp2_with fail
  go_loopw [1] (fun i wr => ∃ (k : Nat) (M : List Ent), i = .int .i64 k ∧ k ≤ n ∧ Hid (M.length = n) ∧ Hid (M.Perm L) ∧ Hid (SinkI M k) ∧ Hid (wr.ownsRow B 24 3 (.slice (some ⟨r, 0, none⟩) n c) n (rowM 3 (zE M) n)) ∧ Hid (Fr (fun x => x = r) w wr)) (fun i _ => n - (intOf i).toNat)
  case atStart => exact ⟨k, L, rfl, hk, HN, Lib.hid (List.Perm.refl _), HI, HO, Lib.hid (Fr.refl _ _)⟩
  case round =>
    clear HO HI HN hk k
    obtain ⟨k, M, rfl, hk, HN, HP', HI, HO, FF⟩ := hrel
    have HG : Hid (Blk wr g 55 #[.slice (some ⟨r, 0, none⟩) n c]) := Lib.hid (HB.out.fr FF.out (show ¬ g = r from hne))
    obtain ⟨m2, hm2⟩ : ∃ m, 2 * k = m := ⟨_, rfl⟩
    obtain ⟨q, hq⟩ : ∃ m, m2 + 1 = m := ⟨_, rfl⟩
    obtain ⟨o, ho⟩ : ∃ m, q + 1 = m := ⟨_, rfl⟩
    have hw1 : IntKind.i64.wrap (2 * (k : Int)) = (m2 : Int) := by rw [IntWalk.i64_in _ (by omega)]; omega
    have hw2 : IntKind.i64.wrap ((m2 : Int) + 1) = (q : Int) := by rw [IntWalk.i64_in _ (by omega)]; omega
    have hw3 : IntKind.i64.wrap ((q : Int) + 1) = (o : Int) := by rw [IntWalk.i64_in _ (by omega)]; omega
    have hv1 : wrap64 (2 * (k : Int)) = (m2 : Int) := by rw [IntWalk.wrap64_in _ (by omega)]; omega
    have hv2 : wrap64 ((m2 : Int) + 1) = (q : Int) := by rw [IntWalk.wrap64_in _ (by omega)]; omega
    have hv3 : wrap64 ((q : Int) + 1) = (o : Int) := by rw [IntWalk.wrap64_in _ (by omega)]; omega
    have HWS := Lib.hid (And.intro hw1 (And.intro hw2 (And.intro hw3 (And.intro hv1 (And.intro hv2 hv3)))))
    clear hw1 hw2 hw3 hv1 hv2 hv3
    have HK3 : Hid (q = 2 * k + 1 ∧ o = 2 * k + 2) := Lib.hid (by omega)
    clear hm2 hq ho
    have c0' : wr.cell? ⟨g, 0, none⟩ = some (.slice (some ⟨r, 0, none⟩) n c) := HG.out.cell 0
    by_cases hqn : n ≤ q
    · have hqi : (n : Int) ≤ (q : Int) := by omega
      obtain ⟨hw1, hw2, hw3, hv1, hv2, hv3⟩ := HWS.out
      go_wp2_with fail
      go_end0
      clear hw1 hw2 hw3 hv1 hv2 hv3
      exact ⟨rfl, M, HP'.out, sink_done HI.out (fun i i0 hi hp => absurd hi (by have := HK3.out; have := HN.out; omega)), HO.out, FF.out⟩
    have hqn' : q < n := by omega
    have hqi : (q : Int) < (n : Int) := by omega
    have hqi2 : ¬ (n : Int) ≤ (q : Int) := by omega
    have hkn : k < n := by have := HK3.out; omega
    have hki : (k : Int) < (n : Int) := by omega
    have HQK : Hid (k ≠ q) := Lib.hid (by have := HK3.out; omega)
    have HOK : Hid (k ≠ o) := Lib.hid (by have := HK3.out; omega)
    clear hqn
    have c0 : wr.cell? ⟨r, k * 3, none⟩ = _ := ownM_at HO.out (i := k) (j := 0) hkn (by omega)
    have c1 : wr.cell? ⟨r, k * 3 + 1, none⟩ = _ := ownM_at HO.out (i := k) (j := 1) hkn (by omega)
    have c2 : wr.cell? ⟨r, k * 3 + 2, none⟩ = _ := ownM_at HO.out (i := k) (j := 2) hkn (by omega)
    have d0 : wr.cell? ⟨r, q * 3, none⟩ = _ := ownM_at HO.out (i := q) (j := 0) hqn' (by omega)
    have d1 : wr.cell? ⟨r, q * 3 + 1, none⟩ = _ := ownM_at HO.out (i := q) (j := 1) hqn' (by omega)
    have d2 : wr.cell? ⟨r, q * 3 + 2, none⟩ = _ := ownM_at HO.out (i := q) (j := 2) hqn' (by omega)
    have e1 : eE M k = (zE M k 0, zE M k 1, zE M k 2) := rfl
    have e2 : eE M q = (zE M q 0, zE M q 1, zE M q 2) := rfl
    obtain ⟨a, ha⟩ : ∃ y, zE M k 0 = y := ⟨_, rfl⟩
    rw [ha] at c0 e1
    clear ha
    obtain ⟨d, hd⟩ : ∃ y, zE M k 1 = y := ⟨_, rfl⟩
    rw [hd] at c1 e1
    clear hd
    obtain ⟨f, hf⟩ : ∃ y, zE M k 2 = y := ⟨_, rfl⟩
    rw [hf] at c2 e1
    clear hf
    obtain ⟨q0, hq0⟩ : ∃ y, zE M q 0 = y := ⟨_, rfl⟩
    rw [hq0] at d0 e2
    clear hq0
    obtain ⟨q1, hq1⟩ : ∃ y, zE M q 1 = y := ⟨_, rfl⟩
    rw [hq1] at d1 e2
    clear hq1
    obtain ⟨q2, hq2⟩ : ∃ y, zE M q 2 = y := ⟨_, rfl⟩
    rw [hq2] at d2 e2
    clear hq2
    have HE1 := Lib.hid e1; have HE2 := Lib.hid e2
    have HP := Lib.hid (at3 c0 c1 c2); have HQ := Lib.hid (at3 d0 d1 d2)
    have EE : Hid (Below wr.heap.size wr wr) := Lib.hid (Below.refl _ _)
    clear c0' c0 c1 c2 d0 d1 d2 e1 e2
    have HH := HG
    by_cases honot : n ≤ o
    · have hoi : ¬ (o : Int) < (n : Int) := by omega
      have hod : decide ((o : Int) < (n : Int)) = false := decide_eq_false hoi
      have hod2 : decide (o < n) = false := decide_eq_false (by omega)
      have kH0 : wr.cell? ⟨g, 0, none⟩ = some (.slice (some ⟨r, 0, none⟩) n c) := HH.out.cell 0
      have kP0 : wr.cell? ⟨r, k * 3, none⟩ = some (.int .i64 a) := HP.out 0 _ rfl
      have kP1 : wr.cell? ⟨r, k * 3 + 1, none⟩ = some (.int .i64 d) := HP.out 1 _ rfl
      have kP2 : wr.cell? ⟨r, k * 3 + 2, none⟩ = some (.int .i64 f) := HP.out 2 _ rfl
      have kQ0 : wr.cell? ⟨r, q * 3, none⟩ = some (.int .i64 q0) := HQ.out 0 _ rfl
      have kQ1 : wr.cell? ⟨r, q * 3 + 1, none⟩ = some (.int .i64 q1) := HQ.out 1 _ rfl
      have kQ2 : wr.cell? ⟨r, q * 3 + 2, none⟩ = some (.int .i64 q2) := HQ.out 2 _ rfl
      obtain ⟨hw1, hw2, hw3, hv1, hv2, hv3⟩ := HWS.out
      go_wp2_with fail
      clear hw1 hw2 hw3 hv1 hv2 hv3
      have sK : ∀ X, Blk X (g) 55 #[.slice (some ⟨r, 0, none⟩) n c] → At X r (k * 3) #[.int .i64 a, .int .i64 d, .int .i64 f] → At X r (q * 3) #[.int .i64 q0, .int .i64 q1, .int .i64 q2] → (fun X => X.cell? ⟨g, 0, none⟩ = some (.slice (some ⟨r, 0, none⟩) n c) ∧ X.cell? ⟨r, k * 3, none⟩ = some (.int .i64 a) ∧ X.cell? ⟨r, k * 3 + 1, none⟩ = some (.int .i64 d) ∧ X.cell? ⟨r, k * 3 + 2, none⟩ = some (.int .i64 f) ∧ X.cell? ⟨r, q * 3, none⟩ = some (.int .i64 q0) ∧ X.cell? ⟨r, q * 3 + 1, none⟩ = some (.int .i64 q1) ∧ X.cell? ⟨r, q * 3 + 2, none⟩ = some (.int .i64 q2)) X := fun X hH hP hQ => ⟨hH.cell 0, hP 0 _ rfl, hP 1 _ rfl, hP 2 _ rfl, hQ 0 _ rfl, hQ 1 _ rfl, hQ 2 _ rfl⟩
      have LH0 := Lib.hid (HH.out.drew)
      have LP0 := Lib.hid (HP.out.drew)
      have LQ0 := Lib.hid (HQ.out.drew)
      have E0 := Lib.hid (EE.out.drew)
      clear kH0 kP0 kP1 kP2 kQ0 kQ1 kQ2
      refine wp_region_held_drew (S := (fun X => X.cell? ⟨g, 0, none⟩ = some (.slice (some ⟨r, 0, none⟩) n c) ∧ X.cell? ⟨r, k * 3, none⟩ = some (.int .i64 a) ∧ X.cell? ⟨r, k * 3 + 1, none⟩ = some (.int .i64 d) ∧ X.cell? ⟨r, k * 3 + 2, none⟩ = some (.int .i64 f) ∧ X.cell? ⟨r, q * 3, none⟩ = some (.int .i64 q0) ∧ X.cell? ⟨r, q * 3 + 1, none⟩ = some (.int .i64 q1) ∧ X.cell? ⟨r, q * 3 + 2, none⟩ = some (.int .i64 q2))) (by kernel_rfl) (sK _ LH0.out LP0.out LQ0.out) (fun hHeld => ?_)
      clear hHeld
      refine wpAnyH_take (i := 0) (v := ?_) rfl (by kernel_rfl) (by kernel_rfl) (by kernel_rfl) (fun _ _ _ h => h) (Or.inl ⟨by rfl, ?_⟩) (sK _ LH0.out LP0.out LQ0.out) ?_
      rotate_left
      · (intro wS hSw; (try dsimp only at hSw); go_simp; try with_reducible rfl)
      simp only [Act.put, List.getElem_toArray, List.getElem_cons_zero, List.getElem_cons_succ, List.setIfInBounds_toArray, List.set_cons_zero, List.set_cons_succ]
      refine wpAnyH_take (i := 1) (v := ?_) rfl (by kernel_rfl) (by kernel_rfl) (by kernel_rfl) (fun _ _ _ h => h) (Or.inl ⟨by rfl, ?_⟩) (sK _ LH0.out LP0.out LQ0.out) ?_
      rotate_left
      · (intro wS hSw; (try dsimp only at hSw); go_simp; try with_reducible rfl)
      simp only [Act.put, List.getElem_toArray, List.getElem_cons_zero, List.getElem_cons_succ, List.setIfInBounds_toArray, List.set_cons_zero, List.set_cons_succ]
      refine wpAnyH_take (i := 2) (v := ?_) rfl (by kernel_rfl) (by kernel_rfl) (by kernel_rfl) (fun _ _ _ h => h) (Or.inl ⟨by rfl, ?_⟩) (sK _ LH0.out LP0.out LQ0.out) ?_
      rotate_left
      · (intro wS hSw; (try dsimp only at hSw); go_simp; try with_reducible rfl)
      simp only [Act.put, List.getElem_toArray, List.getElem_cons_zero, List.getElem_cons_succ, List.setIfInBounds_toArray, List.set_cons_zero, List.set_cons_succ]
      refine wpAnyH_take (i := 3) (v := ?_) rfl (by kernel_rfl) (by kernel_rfl) (by kernel_rfl) (fun _ _ _ h => h) (Or.inl ⟨by rfl, ?_⟩) (sK _ LH0.out LP0.out LQ0.out) ?_
      rotate_left
      · (intro wS hSw; (try dsimp only at hSw); go_simp; try with_reducible rfl)
      simp only [Act.put, List.getElem_toArray, List.getElem_cons_zero, List.getElem_cons_succ, List.setIfInBounds_toArray, List.set_cons_zero, List.set_cons_succ]
      refine wpAnyH_take (i := 4) (v := ?_) rfl (by kernel_rfl) (by kernel_rfl) (by kernel_rfl) (fun _ _ _ h => h) (Or.inl ⟨by rfl, ?_⟩) (sK _ LH0.out LP0.out LQ0.out) ?_
      rotate_left
      · (intro wS hSw; (try dsimp only at hSw); go_simp; try with_reducible rfl)
      simp only [Act.put, List.getElem_toArray, List.getElem_cons_zero, List.getElem_cons_succ, List.setIfInBounds_toArray, List.set_cons_zero, List.set_cons_succ]
      refine wpAnyH_take (i := 5) (v := ?_) rfl (by kernel_rfl) (by kernel_rfl) (by kernel_rfl) (fun _ _ _ h => h) (Or.inl ⟨by rfl, ?_⟩) (sK _ LH0.out LP0.out LQ0.out) ?_
      rotate_left
      · (intro wS hSw; (try dsimp only at hSw); go_simp; try with_reducible rfl)
      simp only [Act.put, List.getElem_toArray, List.getElem_cons_zero, List.getElem_cons_succ, List.setIfInBounds_toArray, List.set_cons_zero, List.set_cons_succ]
      refine wpAnyH_take (i := 6) (v := ?_) rfl (by kernel_rfl) (by kernel_rfl) (by kernel_rfl) (fun _ _ _ h => h) (Or.inl ⟨by rfl, ?_⟩) (sK _ LH0.out LP0.out LQ0.out) ?_
      rotate_left
      · (intro wS hSw; (try dsimp only at hSw); go_simp; try with_reducible rfl)
      simp only [Act.put, List.getElem_toArray, List.getElem_cons_zero, List.getElem_cons_succ, List.setIfInBounds_toArray, List.set_cons_zero, List.set_cons_succ]
      refine wpAnyH_take (i := 7) (v := ?_) rfl (by kernel_rfl) (by kernel_rfl) (by kernel_rfl) (fun _ _ _ h => h) (Or.inl ⟨by rfl, ?_⟩) (sK _ LH0.out LP0.out LQ0.out) ?_
      rotate_left
      · (intro wS hSw; (try dsimp only at hSw); go_simp; try with_reducible rfl)
      simp only [Act.put, List.getElem_toArray, List.getElem_cons_zero, List.getElem_cons_succ, List.setIfInBounds_toArray, List.set_cons_zero, List.set_cons_succ]
      refine wpAnyH_take (i := 8) (v := undef) rfl (by kernel_rfl) (by kernel_rfl) (by kernel_rfl) (fun _ _ _ h => h) (Or.inr ⟨by kernel_rfl, rfl⟩) (sK _ LH0.out LP0.out LQ0.out) ?_
      simp only [Act.put, List.getElem_toArray, List.getElem_cons_zero, List.getElem_cons_succ, List.setIfInBounds_toArray, List.set_cons_zero, List.set_cons_succ]
      refine wpAnyH_take (i := 9) (v := undef) rfl (by kernel_rfl) (by kernel_rfl) (by kernel_rfl) (fun _ _ _ h => h) (Or.inr ⟨by kernel_rfl, rfl⟩) (sK _ LH0.out LP0.out LQ0.out) ?_
      simp only [Act.put, List.getElem_toArray, List.getElem_cons_zero, List.getElem_cons_succ, List.setIfInBounds_toArray, List.set_cons_zero, List.set_cons_succ]
      refine wpAnyH_take (i := 10) (v := undef) rfl (by kernel_rfl) (by kernel_rfl) (by kernel_rfl) (fun _ _ _ h => h) (Or.inr ⟨by kernel_rfl, rfl⟩) (sK _ LH0.out LP0.out LQ0.out) ?_
      simp only [Act.put, List.getElem_toArray, List.getElem_cons_zero, List.getElem_cons_succ, List.setIfInBounds_toArray, List.set_cons_zero, List.set_cons_succ]
      refine wpAnyH_take (i := 11) (v := undef) rfl (by kernel_rfl) (by kernel_rfl) (by kernel_rfl) (fun _ _ _ h => h) (Or.inr ⟨by kernel_rfl, rfl⟩) (sK _ LH0.out LP0.out LQ0.out) ?_
      simp only [Act.put, List.getElem_toArray, List.getElem_cons_zero, List.getElem_cons_succ, List.setIfInBounds_toArray, List.set_cons_zero, List.set_cons_succ]
      refine wpAnyH_take (i := 12) (v := undef) rfl (by kernel_rfl) (by kernel_rfl) (by kernel_rfl) (fun _ _ _ h => h) (Or.inr ⟨by kernel_rfl, rfl⟩) (sK _ LH0.out LP0.out LQ0.out) ?_
      simp only [Act.put, List.getElem_toArray, List.getElem_cons_zero, List.getElem_cons_succ, List.setIfInBounds_toArray, List.set_cons_zero, List.set_cons_succ]
      refine wpAnyH_take (i := 13) (v := undef) rfl (by kernel_rfl) (by kernel_rfl) (by kernel_rfl) (fun _ _ _ h => h) (Or.inr ⟨by kernel_rfl, rfl⟩) (sK _ LH0.out LP0.out LQ0.out) ?_
      simp only [Act.put, List.getElem_toArray, List.getElem_cons_zero, List.getElem_cons_succ, List.setIfInBounds_toArray, List.set_cons_zero, List.set_cons_succ]
      refine wpAnyH_take (i := 14) (v := undef) rfl (by kernel_rfl) (by kernel_rfl) (by kernel_rfl) (fun _ _ _ h => h) (Or.inr ⟨by kernel_rfl, rfl⟩) (sK _ LH0.out LP0.out LQ0.out) ?_
      simp only [Act.put, List.getElem_toArray, List.getElem_cons_zero, List.getElem_cons_succ, List.setIfInBounds_toArray, List.set_cons_zero, List.set_cons_succ]
      refine wpAnyH_take (i := 15) (v := undef) rfl (by kernel_rfl) (by kernel_rfl) (by kernel_rfl) (fun _ _ _ h => h) (Or.inr ⟨by kernel_rfl, rfl⟩) (sK _ LH0.out LP0.out LQ0.out) ?_
      simp only [Act.put, List.getElem_toArray, List.getElem_cons_zero, List.getElem_cons_succ, List.setIfInBounds_toArray, List.set_cons_zero, List.set_cons_succ]
      refine wpAnyH_take (i := 16) (v := undef) rfl (by kernel_rfl) (by kernel_rfl) (by kernel_rfl) (fun _ _ _ h => h) (Or.inr ⟨by kernel_rfl, rfl⟩) (sK _ LH0.out LP0.out LQ0.out) ?_
      simp only [Act.put, List.getElem_toArray, List.getElem_cons_zero, List.getElem_cons_succ, List.setIfInBounds_toArray, List.set_cons_zero, List.set_cons_succ]
      refine wpAnyH_take (i := 17) (v := undef) rfl (by kernel_rfl) (by kernel_rfl) (by kernel_rfl) (fun _ _ _ h => h) (Or.inr ⟨by kernel_rfl, rfl⟩) (sK _ LH0.out LP0.out LQ0.out) ?_
      simp only [Act.put, List.getElem_toArray, List.getElem_cons_zero, List.getElem_cons_succ, List.setIfInBounds_toArray, List.set_cons_zero, List.set_cons_succ]
      refine wpAnyH_take (i := 18) (v := undef) rfl (by kernel_rfl) (by kernel_rfl) (by kernel_rfl) (fun _ _ _ h => h) (Or.inr ⟨by kernel_rfl, rfl⟩) (sK _ LH0.out LP0.out LQ0.out) ?_
      simp only [Act.put, List.getElem_toArray, List.getElem_cons_zero, List.getElem_cons_succ, List.setIfInBounds_toArray, List.set_cons_zero, List.set_cons_succ]
      refine wpAnyH_take (i := 19) (v := undef) rfl (by kernel_rfl) (by kernel_rfl) (by kernel_rfl) (fun _ _ _ h => h) (Or.inr ⟨by kernel_rfl, rfl⟩) (sK _ LH0.out LP0.out LQ0.out) ?_
      simp only [Act.put, List.getElem_toArray, List.getElem_cons_zero, List.getElem_cons_succ, List.setIfInBounds_toArray, List.set_cons_zero, List.set_cons_succ]
      refine wpAnyH_take (i := 20) (v := undef) rfl (by kernel_rfl) (by kernel_rfl) (by kernel_rfl) (fun _ _ _ h => h) (Or.inr ⟨by kernel_rfl, rfl⟩) (sK _ LH0.out LP0.out LQ0.out) ?_
      simp only [Act.put, List.getElem_toArray, List.getElem_cons_zero, List.getElem_cons_succ, List.setIfInBounds_toArray, List.set_cons_zero, List.set_cons_succ]
      refine wpAnyH_take (i := 21) (v := undef) rfl (by kernel_rfl) (by kernel_rfl) (by kernel_rfl) (fun _ _ _ h => h) (Or.inr ⟨by kernel_rfl, rfl⟩) (sK _ LH0.out LP0.out LQ0.out) ?_
      simp only [Act.put, List.getElem_toArray, List.getElem_cons_zero, List.getElem_cons_succ, List.setIfInBounds_toArray, List.set_cons_zero, List.set_cons_succ]
      refine wpAnyH_take (i := 22) (v := undef) rfl (by kernel_rfl) (by kernel_rfl) (by kernel_rfl) (fun _ _ _ h => h) (Or.inr ⟨by kernel_rfl, rfl⟩) (sK _ LH0.out LP0.out LQ0.out) ?_
      simp only [Act.put, List.getElem_toArray, List.getElem_cons_zero, List.getElem_cons_succ, List.setIfInBounds_toArray, List.set_cons_zero, List.set_cons_succ]
      refine wpAnyH_take (i := 23) (v := ?_) rfl (by kernel_rfl) (by kernel_rfl) (by kernel_rfl) (fun _ _ _ h => h) (Or.inl ⟨by rfl, ?_⟩) (sK _ LH0.out LP0.out LQ0.out) ?_
      rotate_left
      · (intro wS hSw; (try dsimp only at hSw); go_simp; try with_reducible rfl)
      simp only [Act.put, List.getElem_toArray, List.getElem_cons_zero, List.getElem_cons_succ, List.setIfInBounds_toArray, List.set_cons_zero, List.set_cons_succ]
      refine wpAnyH_done (by kernel_rfl) ?_ _
      have HO1 := Lib.hid (ownM_below HO.out E0.out)
      have FF1 := Lib.hid (FF.out.below E0.out)
      have HH := LH0
      have HP := LP0
      have HQ := LQ0
      have EE := E0
      have kH0 : wr.drew.cell? ⟨g, 0, none⟩ = some (.slice (some ⟨r, 0, none⟩) n c) := HH.out.cell 0
      have kP0 : wr.drew.cell? ⟨r, k * 3, none⟩ = some (.int .i64 a) := HP.out 0 _ rfl
      have kP1 : wr.drew.cell? ⟨r, k * 3 + 1, none⟩ = some (.int .i64 d) := HP.out 1 _ rfl
      have kP2 : wr.drew.cell? ⟨r, k * 3 + 2, none⟩ = some (.int .i64 f) := HP.out 2 _ rfl
      have kQ0 : wr.drew.cell? ⟨r, q * 3, none⟩ = some (.int .i64 q0) := HQ.out 0 _ rfl
      have kQ1 : wr.drew.cell? ⟨r, q * 3 + 1, none⟩ = some (.int .i64 q1) := HQ.out 1 _ rfl
      have kQ2 : wr.drew.cell? ⟨r, q * 3 + 2, none⟩ = some (.int .i64 q2) := HQ.out 2 _ rfl
      clear kH0 kP0 kP1 kP2 kQ0 kQ1 kQ2
      clear EE
      have HM : Hid (∀ i, 0 < i → i < M.length → (i - 1) / 2 = k → ¬ ltE (eE M i) (eE M q)) := Lib.hid (fun i i0 hi hp => by
        rw [show i = q by have := HK3.out; have := HN.out; omega]; exact ltE_irr _)
      have gO := HO1.out; have gF := FF1.out; have gH := HH.out; have gP := HP.out; have gQ := HQ.out
      clear HO1 FF1 HH HP HQ
      obtain ⟨r0, hr0⟩ : ∃ V, wr.drew = V := ⟨_, rfl⟩
      try rw [hr0]
      rw [hr0] at gO gF gH gP gQ
      clear hr0
      have HO1 := Lib.hid gO; have FF1 := Lib.hid gF; have HH := Lib.hid gH; have HP := Lib.hid gP; have HQ := Lib.hid gQ
      clear gO gF gH gP gQ
      go_wp2_with fail
      rcases Bool.eq_false_or_eq_true (ltb (q0, q1, q2) (a, d, f)) with hlt | hlt
      · have EE : Hid (Below r0.heap.size r0 r0) := Lib.hid (Below.refl _ _)
        have kH0 : r0.cell? ⟨g, 0, none⟩ = some (.slice (some ⟨r, 0, none⟩) n c) := HH.out.cell 0
        have kP0 : r0.cell? ⟨r, k * 3, none⟩ = some (.int .i64 a) := HP.out 0 _ rfl
        have kP1 : r0.cell? ⟨r, k * 3 + 1, none⟩ = some (.int .i64 d) := HP.out 1 _ rfl
        have kP2 : r0.cell? ⟨r, k * 3 + 2, none⟩ = some (.int .i64 f) := HP.out 2 _ rfl
        have kQ0 : r0.cell? ⟨r, q * 3, none⟩ = some (.int .i64 q0) := HQ.out 0 _ rfl
        have kQ1 : r0.cell? ⟨r, q * 3 + 1, none⟩ = some (.int .i64 q1) := HQ.out 1 _ rfl
        have kQ2 : r0.cell? ⟨r, q * 3 + 2, none⟩ = some (.int .i64 q2) := HQ.out 2 _ rfl
        go_wp2_with fail
        have sK : ∀ X, Blk X (g) 55 #[.slice (some ⟨r, 0, none⟩) n c] → At X r (k * 3) #[.int .i64 a, .int .i64 d, .int .i64 f] → At X r (q * 3) #[.int .i64 q0, .int .i64 q1, .int .i64 q2] → (fun X => X.cell? ⟨g, 0, none⟩ = some (.slice (some ⟨r, 0, none⟩) n c) ∧ X.cell? ⟨r, k * 3, none⟩ = some (.int .i64 a) ∧ X.cell? ⟨r, k * 3 + 1, none⟩ = some (.int .i64 d) ∧ X.cell? ⟨r, k * 3 + 2, none⟩ = some (.int .i64 f) ∧ X.cell? ⟨r, q * 3, none⟩ = some (.int .i64 q0) ∧ X.cell? ⟨r, q * 3 + 1, none⟩ = some (.int .i64 q1) ∧ X.cell? ⟨r, q * 3 + 2, none⟩ = some (.int .i64 q2)) X := fun X hH hP hQ => ⟨hH.cell 0, hP 0 _ rfl, hP 1 _ rfl, hP 2 _ rfl, hQ 0 _ rfl, hQ 1 _ rfl, hQ 2 _ rfl⟩
        have LH0 := Lib.hid (HH.out.drew)
        have LP0 := Lib.hid (HP.out.drew)
        have LQ0 := Lib.hid (HQ.out.drew)
        have E0 := Lib.hid (EE.out.drew)
        clear kH0 kP0 kP1 kP2 kQ0 kQ1 kQ2
        refine wp_region_held_drew (S := (fun X => X.cell? ⟨g, 0, none⟩ = some (.slice (some ⟨r, 0, none⟩) n c) ∧ X.cell? ⟨r, k * 3, none⟩ = some (.int .i64 a) ∧ X.cell? ⟨r, k * 3 + 1, none⟩ = some (.int .i64 d) ∧ X.cell? ⟨r, k * 3 + 2, none⟩ = some (.int .i64 f) ∧ X.cell? ⟨r, q * 3, none⟩ = some (.int .i64 q0) ∧ X.cell? ⟨r, q * 3 + 1, none⟩ = some (.int .i64 q1) ∧ X.cell? ⟨r, q * 3 + 2, none⟩ = some (.int .i64 q2))) (by kernel_rfl) (sK _ LH0.out LP0.out LQ0.out) (fun hHeld => ?_)
        clear hHeld
        refine wpAnyH_take (i := 0) (v := ?_) rfl (by kernel_rfl) (by kernel_rfl) (by kernel_rfl) (fun _ _ _ h => h) (Or.inl ⟨by rfl, ?_⟩) (sK _ LH0.out LP0.out LQ0.out) ?_
        rotate_left
        · (intro wS hSw; (try dsimp only at hSw); go_simp; try with_reducible rfl)
        simp only [Act.put, List.getElem_toArray, List.getElem_cons_zero, List.getElem_cons_succ, List.setIfInBounds_toArray, List.set_cons_zero, List.set_cons_succ]
        refine wpAnyH_take (i := 1) (v := ?_) rfl (by kernel_rfl) (by kernel_rfl) (by kernel_rfl) (fun _ _ _ h => h) (Or.inl ⟨by rfl, ?_⟩) (sK _ LH0.out LP0.out LQ0.out) ?_
        rotate_left
        · (intro wS hSw; (try dsimp only at hSw); go_simp; try with_reducible rfl)
        simp only [Act.put, List.getElem_toArray, List.getElem_cons_zero, List.getElem_cons_succ, List.setIfInBounds_toArray, List.set_cons_zero, List.set_cons_succ]
        refine wpAnyH_take (i := 2) (v := ?_) rfl (by kernel_rfl) (by kernel_rfl) (by kernel_rfl) (fun _ _ _ h => h) (Or.inl ⟨by rfl, ?_⟩) (sK _ LH0.out LP0.out LQ0.out) ?_
        rotate_left
        · (intro wS hSw; (try dsimp only at hSw); go_simp; try with_reducible rfl)
        simp only [Act.put, List.getElem_toArray, List.getElem_cons_zero, List.getElem_cons_succ, List.setIfInBounds_toArray, List.set_cons_zero, List.set_cons_succ]
        refine wpAnyH_take (i := 3) (v := ?_) rfl (by kernel_rfl) (by kernel_rfl) (by kernel_rfl) (fun _ _ _ h => h) (Or.inl ⟨by rfl, ?_⟩) (sK _ LH0.out LP0.out LQ0.out) ?_
        rotate_left
        · (intro wS hSw; (try dsimp only at hSw); go_simp; try with_reducible rfl)
        simp only [Act.put, List.getElem_toArray, List.getElem_cons_zero, List.getElem_cons_succ, List.setIfInBounds_toArray, List.set_cons_zero, List.set_cons_succ]
        refine wpAnyH_take (i := 4) (v := ?_) rfl (by kernel_rfl) (by kernel_rfl) (by kernel_rfl) (fun _ _ _ h => h) (Or.inl ⟨by rfl, ?_⟩) (sK _ LH0.out LP0.out LQ0.out) ?_
        rotate_left
        · (intro wS hSw; (try dsimp only at hSw); go_simp; try with_reducible rfl)
        simp only [Act.put, List.getElem_toArray, List.getElem_cons_zero, List.getElem_cons_succ, List.setIfInBounds_toArray, List.set_cons_zero, List.set_cons_succ]
        refine wpAnyH_take (i := 5) (v := ?_) rfl (by kernel_rfl) (by kernel_rfl) (by kernel_rfl) (fun _ _ _ h => h) (Or.inl ⟨by rfl, ?_⟩) (sK _ LH0.out LP0.out LQ0.out) ?_
        rotate_left
        · (intro wS hSw; (try dsimp only at hSw); go_simp; try with_reducible rfl)
        simp only [Act.put, List.getElem_toArray, List.getElem_cons_zero, List.getElem_cons_succ, List.setIfInBounds_toArray, List.set_cons_zero, List.set_cons_succ]
        refine wpAnyH_take (i := 6) (v := ?_) rfl (by kernel_rfl) (by kernel_rfl) (by kernel_rfl) (fun _ _ _ h => h) (Or.inl ⟨by rfl, ?_⟩) (sK _ LH0.out LP0.out LQ0.out) ?_
        rotate_left
        · (intro wS hSw; (try dsimp only at hSw); go_simp; try with_reducible rfl)
        simp only [Act.put, List.getElem_toArray, List.getElem_cons_zero, List.getElem_cons_succ, List.setIfInBounds_toArray, List.set_cons_zero, List.set_cons_succ]
        refine wpAnyH_take (i := 7) (v := ?_) rfl (by kernel_rfl) (by kernel_rfl) (by kernel_rfl) (fun _ _ _ h => h) (Or.inl ⟨by rfl, ?_⟩) (sK _ LH0.out LP0.out LQ0.out) ?_
        rotate_left
        · (intro wS hSw; (try dsimp only at hSw); go_simp; try with_reducible rfl)
        simp only [Act.put, List.getElem_toArray, List.getElem_cons_zero, List.getElem_cons_succ, List.setIfInBounds_toArray, List.set_cons_zero, List.set_cons_succ]
        refine wpAnyH_take (i := 8) (v := ?_) rfl (by kernel_rfl) (by kernel_rfl) (by kernel_rfl) (fun _ _ _ h => h) (Or.inl ⟨by rfl, ?_⟩) (sK _ LH0.out LP0.out LQ0.out) ?_
        rotate_left
        · (intro wS hSw; (try dsimp only at hSw); go_simp; try with_reducible rfl)
        simp only [Act.put, List.getElem_toArray, List.getElem_cons_zero, List.getElem_cons_succ, List.setIfInBounds_toArray, List.set_cons_zero, List.set_cons_succ]
        refine wpAnyH_take (i := 9) (v := ?_) rfl (by kernel_rfl) (by kernel_rfl) (by kernel_rfl) (fun _ _ _ h => h) (Or.inl ⟨by rfl, ?_⟩) (sK _ LH0.out LP0.out LQ0.out) ?_
        rotate_left
        · (intro wS hSw; (try dsimp only at hSw); go_simp; try with_reducible rfl)
        simp only [Act.put, List.getElem_toArray, List.getElem_cons_zero, List.getElem_cons_succ, List.setIfInBounds_toArray, List.set_cons_zero, List.set_cons_succ]
        refine wpAnyH_take (i := 10) (v := ?_) rfl (by kernel_rfl) (by kernel_rfl) (by kernel_rfl) (fun _ _ _ h => h) (Or.inl ⟨by rfl, ?_⟩) (sK _ LH0.out LP0.out LQ0.out) ?_
        rotate_left
        · (intro wS hSw; (try dsimp only at hSw); go_simp; try with_reducible rfl)
        simp only [Act.put, List.getElem_toArray, List.getElem_cons_zero, List.getElem_cons_succ, List.setIfInBounds_toArray, List.set_cons_zero, List.set_cons_succ]
        refine wpAnyH_take (i := 11) (v := ?_) rfl (by kernel_rfl) (by kernel_rfl) (by kernel_rfl) (fun _ _ _ h => h) (Or.inl ⟨by rfl, ?_⟩) (sK _ LH0.out LP0.out LQ0.out) ?_
        rotate_left
        · (intro wS hSw; (try dsimp only at hSw); go_simp; try with_reducible rfl)
        simp only [Act.put, List.getElem_toArray, List.getElem_cons_zero, List.getElem_cons_succ, List.setIfInBounds_toArray, List.set_cons_zero, List.set_cons_succ]
        refine wpAnyH_take (i := 12) (v := ?_) rfl (by kernel_rfl) (by kernel_rfl) (by kernel_rfl) (fun _ _ _ h => h) (Or.inl ⟨by rfl, ?_⟩) (sK _ LH0.out LP0.out LQ0.out) ?_
        rotate_left
        · (intro wS hSw; (try dsimp only at hSw); go_simp; try with_reducible rfl)
        simp only [Act.put, List.getElem_toArray, List.getElem_cons_zero, List.getElem_cons_succ, List.setIfInBounds_toArray, List.set_cons_zero, List.set_cons_succ]
        refine wpAnyH_take (i := 13) (v := ?_) rfl (by kernel_rfl) (by kernel_rfl) (by kernel_rfl) (fun _ _ _ h => h) (Or.inl ⟨by rfl, ?_⟩) (sK _ LH0.out LP0.out LQ0.out) ?_
        rotate_left
        · (intro wS hSw; (try dsimp only at hSw); go_simp; try with_reducible rfl)
        simp only [Act.put, List.getElem_toArray, List.getElem_cons_zero, List.getElem_cons_succ, List.setIfInBounds_toArray, List.set_cons_zero, List.set_cons_succ]
        refine wpAnyH_ready (rs := [14]) (by kernel_rfl) (by simp) ?_
        refine AllReadyH.cons rfl (fun K hK => ?_) AllReadyH.nil
        go_simp
        refine (less_any (q0, q1, q2) (a, d, f) _).mono ?_
        rintro e r1 ⟨rfl, hb⟩
        have LH1 := Lib.hid (Blk.next (w := r0.drew) LH0.out hb)
        have LP1 := Lib.hid (At.next (w := r0.drew) LP0.out hb)
        have LQ1 := Lib.hid (At.next (w := r0.drew) LQ0.out hb)
        have E1 := Lib.hid (E0.out.trans (hb.mono E0.out.size))
        rw [hlt]
        clear hb
        go_wp2_with fail
        refine hK.out _ _ (sK _ LH1.out LP1.out LQ1.out) (fun hHeld => ?_)
        clear hK K hHeld
        try simp only [Act.put, List.getElem_toArray, List.getElem_cons_zero, List.getElem_cons_succ, List.setIfInBounds_toArray, List.set_cons_zero, List.set_cons_succ]
        refine wpAnyH_take (i := 15) (v := ?_) rfl (by kernel_rfl) (by kernel_rfl) (by kernel_rfl) (fun _ _ _ h => h) (Or.inl ⟨by rfl, ?_⟩) (sK _ LH1.out LP1.out LQ1.out) ?_
        rotate_left
        · (intro wS hSw; (try dsimp only at hSw); go_simp; try with_reducible rfl)
        simp only [Act.put, List.getElem_toArray, List.getElem_cons_zero, List.getElem_cons_succ, List.setIfInBounds_toArray, List.set_cons_zero, List.set_cons_succ]
        refine wpAnyH_done (by kernel_rfl) ?_ _
        have HO1 := Lib.hid (ownM_below HO1.out E1.out)
        have FF1 := Lib.hid (FF1.out.below E1.out)
        have HH := LH1
        have HP := LP1
        have HQ := LQ1
        have EE := E1
        have kH0 : r1.cell? ⟨g, 0, none⟩ = some (.slice (some ⟨r, 0, none⟩) n c) := HH.out.cell 0
        have kP0 : r1.cell? ⟨r, k * 3, none⟩ = some (.int .i64 a) := HP.out 0 _ rfl
        have kP1 : r1.cell? ⟨r, k * 3 + 1, none⟩ = some (.int .i64 d) := HP.out 1 _ rfl
        have kP2 : r1.cell? ⟨r, k * 3 + 2, none⟩ = some (.int .i64 f) := HP.out 2 _ rfl
        have kQ0 : r1.cell? ⟨r, q * 3, none⟩ = some (.int .i64 q0) := HQ.out 0 _ rfl
        have kQ1 : r1.cell? ⟨r, q * 3 + 1, none⟩ = some (.int .i64 q1) := HQ.out 1 _ rfl
        have kQ2 : r1.cell? ⟨r, q * 3 + 2, none⟩ = some (.int .i64 q2) := HQ.out 2 _ rfl
        have HG1 := HH
        clear kH0 kP0 kP1 kP2 kQ0 kQ1 kQ2
        clear EE
        go_wp2_with fail
        have hk := hkn
        have HPK := HQK
        have sK : ∀ X, Blk X g 55 #[.slice (some ⟨r, 0, none⟩) n c] → (fun X : World => X.cell? ⟨g, 0, none⟩ = some (.slice (some ⟨r, 0, none⟩) n c)) X := fun X hX => hX.cell 0
        have m0 : r1.cell? ⟨r, k * 3, none⟩ = some (.int .i64 a) := HP.out 0 _ rfl
        have md0 : r1.drew.cell? ⟨r, k * 3, none⟩ = some (.int .i64 a) := m0
        have fm0 : r1.frozen? ⟨r, k * 3, none⟩ = false := HO1.out.frozenAt _
        have gm0 : r1.drew.frozen? ⟨r, k * 3, none⟩ = false := fm0
        have m1 : r1.cell? ⟨r, k * 3 + 1, none⟩ = some (.int .i64 d) := HP.out 1 _ rfl
        have md1 : r1.drew.cell? ⟨r, k * 3 + 1, none⟩ = some (.int .i64 d) := m1
        have fm1 : r1.frozen? ⟨r, k * 3 + 1, none⟩ = false := HO1.out.frozenAt _
        have gm1 : r1.drew.frozen? ⟨r, k * 3 + 1, none⟩ = false := fm1
        have m2 : r1.cell? ⟨r, k * 3 + 2, none⟩ = some (.int .i64 f) := HP.out 2 _ rfl
        have md2 : r1.drew.cell? ⟨r, k * 3 + 2, none⟩ = some (.int .i64 f) := m2
        have fm2 : r1.frozen? ⟨r, k * 3 + 2, none⟩ = false := HO1.out.frozenAt _
        have gm2 : r1.drew.frozen? ⟨r, k * 3 + 2, none⟩ = false := fm2
        have n0 : r1.cell? ⟨r, q * 3, none⟩ = some (.int .i64 q0) := HQ.out 0 _ rfl
        have nd0 : r1.drew.cell? ⟨r, q * 3, none⟩ = some (.int .i64 q0) := n0
        have fn0 : r1.frozen? ⟨r, q * 3, none⟩ = false := HO1.out.frozenAt _
        have gn0 : r1.drew.frozen? ⟨r, q * 3, none⟩ = false := fn0
        have n1 : r1.cell? ⟨r, q * 3 + 1, none⟩ = some (.int .i64 q1) := HQ.out 1 _ rfl
        have nd1 : r1.drew.cell? ⟨r, q * 3 + 1, none⟩ = some (.int .i64 q1) := n1
        have fn1 : r1.frozen? ⟨r, q * 3 + 1, none⟩ = false := HO1.out.frozenAt _
        have gn1 : r1.drew.frozen? ⟨r, q * 3 + 1, none⟩ = false := fn1
        have n2 : r1.cell? ⟨r, q * 3 + 2, none⟩ = some (.int .i64 q2) := HQ.out 2 _ rfl
        have nd2 : r1.drew.cell? ⟨r, q * 3 + 2, none⟩ = some (.int .i64 q2) := n2
        have fn2 : r1.frozen? ⟨r, q * 3 + 2, none⟩ = false := HO1.out.frozenAt _
        have gn2 : r1.drew.frozen? ⟨r, q * 3 + 2, none⟩ = false := fn2
        refine wp_region_held_drew (S := (fun X : World => X.cell? ⟨g, 0, none⟩ = some (.slice (some ⟨r, 0, none⟩) n c))) (by kernel_rfl) (sK _ HG1.out) (fun hHeld => ?_)
        clear hHeld
        refine wpAnyH_take (i := 0) (v := ?_) rfl (by kernel_rfl) (by kernel_rfl) (by kernel_rfl) (fun _ _ _ h => h) (Or.inl ⟨by rfl, ?_⟩) (sK _ HG1.out) ?_
        rotate_left
        · (intro wS hSw; (try dsimp only at hSw); go_simp; try with_reducible rfl)
        simp only [Act.put, List.getElem_toArray, List.getElem_cons_zero, List.getElem_cons_succ, List.setIfInBounds_toArray, List.set_cons_zero, List.set_cons_succ]
        refine wpAnyH_take (i := 1) (v := ?_) rfl (by kernel_rfl) (by kernel_rfl) (by kernel_rfl) (fun _ _ _ h => h) (Or.inl ⟨by rfl, ?_⟩) (sK _ HG1.out) ?_
        rotate_left
        · (intro wS hSw; (try dsimp only at hSw); go_simp; try with_reducible rfl)
        simp only [Act.put, List.getElem_toArray, List.getElem_cons_zero, List.getElem_cons_succ, List.setIfInBounds_toArray, List.set_cons_zero, List.set_cons_succ]
        refine wpAnyH_take (i := 2) (v := ?_) rfl (by kernel_rfl) (by kernel_rfl) (by kernel_rfl) (fun _ _ _ h => h) (Or.inl ⟨by rfl, ?_⟩) (sK _ HG1.out) ?_
        rotate_left
        · (intro wS hSw; (try dsimp only at hSw); go_simp; try with_reducible rfl)
        simp only [Act.put, List.getElem_toArray, List.getElem_cons_zero, List.getElem_cons_succ, List.setIfInBounds_toArray, List.set_cons_zero, List.set_cons_succ]
        refine wpAnyH_take (i := 3) (v := ?_) rfl (by kernel_rfl) (by kernel_rfl) (by kernel_rfl) (fun _ _ _ h => h) (Or.inl ⟨by rfl, ?_⟩) (sK _ HG1.out) ?_
        rotate_left
        · (intro wS hSw; (try dsimp only at hSw); go_simp; try with_reducible rfl)
        simp only [Act.put, List.getElem_toArray, List.getElem_cons_zero, List.getElem_cons_succ, List.setIfInBounds_toArray, List.set_cons_zero, List.set_cons_succ]
        refine wpAnyH_take (i := 4) (v := ?_) rfl (by kernel_rfl) (by kernel_rfl) (by kernel_rfl) (fun _ _ _ h => h) (Or.inl ⟨by rfl, ?_⟩) (sK _ HG1.out) ?_
        rotate_left
        · (intro wS hSw; (try dsimp only at hSw); go_simp; try with_reducible rfl)
        simp only [Act.put, List.getElem_toArray, List.getElem_cons_zero, List.getElem_cons_succ, List.setIfInBounds_toArray, List.set_cons_zero, List.set_cons_succ]
        refine wpAnyH_take (i := 5) (v := ?_) rfl (by kernel_rfl) (by kernel_rfl) (by kernel_rfl) (fun _ _ _ h => h) (Or.inl ⟨by rfl, ?_⟩) (sK _ HG1.out) ?_
        rotate_left
        · (intro wS hSw; (try dsimp only at hSw); go_simp; try with_reducible rfl)
        simp only [Act.put, List.getElem_toArray, List.getElem_cons_zero, List.getElem_cons_succ, List.setIfInBounds_toArray, List.set_cons_zero, List.set_cons_succ]
        refine wpAnyH_take (i := 6) (v := ?_) rfl (by kernel_rfl) (by kernel_rfl) (by kernel_rfl) (fun _ _ _ h => h) (Or.inl ⟨by rfl, ?_⟩) (sK _ HG1.out) ?_
        rotate_left
        · (intro wS hSw; (try dsimp only at hSw); go_simp; try with_reducible rfl)
        simp only [Act.put, List.getElem_toArray, List.getElem_cons_zero, List.getElem_cons_succ, List.setIfInBounds_toArray, List.set_cons_zero, List.set_cons_succ]
        refine wpAnyH_take (i := 7) (v := ?_) rfl (by kernel_rfl) (by kernel_rfl) (by kernel_rfl) (fun _ _ _ h => h) (Or.inl ⟨by rfl, ?_⟩) (sK _ HG1.out) ?_
        rotate_left
        · (intro wS hSw; (try dsimp only at hSw); go_simp; try with_reducible rfl)
        simp only [Act.put, List.getElem_toArray, List.getElem_cons_zero, List.getElem_cons_succ, List.setIfInBounds_toArray, List.set_cons_zero, List.set_cons_succ]
        refine wpAnyH_take (i := 8) (v := ?_) rfl (by kernel_rfl) (by kernel_rfl) (by kernel_rfl) (fun _ _ _ h => h) (Or.inl ⟨by rfl, ?_⟩) (sK _ HG1.out) ?_
        rotate_left
        · (intro wS hSw; (try dsimp only at hSw); go_simp; try with_reducible rfl)
        simp only [Act.put, List.getElem_toArray, List.getElem_cons_zero, List.getElem_cons_succ, List.setIfInBounds_toArray, List.set_cons_zero, List.set_cons_succ]
        refine wpAnyH_take (i := 9) (v := ?_) rfl (by kernel_rfl) (by kernel_rfl) (by kernel_rfl) (fun _ _ _ h => h) (Or.inl ⟨by rfl, ?_⟩) (sK _ HG1.out) ?_
        rotate_left
        · (intro wS hSw; (try dsimp only at hSw); go_simp; try with_reducible rfl)
        simp only [Act.put, List.getElem_toArray, List.getElem_cons_zero, List.getElem_cons_succ, List.setIfInBounds_toArray, List.set_cons_zero, List.set_cons_succ]
        refine wpAnyH_take (i := 10) (v := ?_) rfl (by kernel_rfl) (by kernel_rfl) (by kernel_rfl) (fun _ _ _ h => h) (Or.inl ⟨by rfl, ?_⟩) (sK _ HG1.out) ?_
        rotate_left
        · (intro wS hSw; (try dsimp only at hSw); go_simp; try with_reducible rfl)
        simp only [Act.put, List.getElem_toArray, List.getElem_cons_zero, List.getElem_cons_succ, List.setIfInBounds_toArray, List.set_cons_zero, List.set_cons_succ]
        refine wpAnyH_take (i := 11) (v := ?_) rfl (by kernel_rfl) (by kernel_rfl) (by kernel_rfl) (fun _ _ _ h => h) (Or.inl ⟨by rfl, ?_⟩) (sK _ HG1.out) ?_
        rotate_left
        · (intro wS hSw; (try dsimp only at hSw); go_simp; try with_reducible rfl)
        simp only [Act.put, List.getElem_toArray, List.getElem_cons_zero, List.getElem_cons_succ, List.setIfInBounds_toArray, List.set_cons_zero, List.set_cons_succ]
        refine wpAnyH_take (i := 12) (v := ?_) rfl (by kernel_rfl) (by kernel_rfl) (by kernel_rfl) (fun _ _ _ h => h) (Or.inl ⟨by rfl, ?_⟩) (sK _ HG1.out) ?_
        rotate_left
        · (intro wS hSw; (try dsimp only at hSw); go_simp; try with_reducible rfl)
        simp only [Act.put, List.getElem_toArray, List.getElem_cons_zero, List.getElem_cons_succ, List.setIfInBounds_toArray, List.set_cons_zero, List.set_cons_succ]
        refine wpAnyH_take (i := 13) (v := ?_) rfl (by kernel_rfl) (by kernel_rfl) (by kernel_rfl) (fun _ _ _ h => h) (Or.inl ⟨by rfl, ?_⟩) (sK _ HG1.out) ?_
        rotate_left
        · (intro wS hSw; (try dsimp only at hSw); go_simp; try with_reducible rfl)
        simp only [Act.put, List.getElem_toArray, List.getElem_cons_zero, List.getElem_cons_succ, List.setIfInBounds_toArray, List.set_cons_zero, List.set_cons_succ]
        refine wpAnyH_take (i := 14) (v := ?_) rfl (by kernel_rfl) (by kernel_rfl) (by kernel_rfl) (fun _ _ _ h => h) (Or.inl ⟨by rfl, ?_⟩) (sK _ HG1.out) ?_
        rotate_left
        · (intro wS hSw; (try dsimp only at hSw); go_simp; try with_reducible rfl)
        simp only [Act.put, List.getElem_toArray, List.getElem_cons_zero, List.getElem_cons_succ, List.setIfInBounds_toArray, List.set_cons_zero, List.set_cons_succ]
        refine wpAnyH_take (i := 15) (v := ?_) rfl (by kernel_rfl) (by kernel_rfl) (by kernel_rfl) (fun _ _ _ h => h) (Or.inl ⟨by rfl, ?_⟩) (sK _ HG1.out) ?_
        rotate_left
        · (intro wS hSw; (try dsimp only at hSw); go_simp; try with_reducible rfl)
        simp only [Act.put, List.getElem_toArray, List.getElem_cons_zero, List.getElem_cons_succ, List.setIfInBounds_toArray, List.set_cons_zero, List.set_cons_succ]
        refine wpAnyH_take (i := 17) (v := ?_) rfl (by kernel_rfl) (by kernel_rfl) (by kernel_rfl) (fun _ _ _ h => h) (Or.inl ⟨by rfl, ?_⟩) (sK _ HG1.out) ?_
        rotate_left
        · (intro wS hSw; (try dsimp only at hSw); go_simp; try with_reducible rfl)
        simp only [Act.put, List.getElem_toArray, List.getElem_cons_zero, List.getElem_cons_succ, List.setIfInBounds_toArray, List.set_cons_zero, List.set_cons_succ]
        refine wpAnyH_take (i := 18) (v := ?_) rfl (by kernel_rfl) (by kernel_rfl) (by kernel_rfl) (fun _ _ _ h => h) (Or.inl ⟨by rfl, ?_⟩) (sK _ HG1.out) ?_
        rotate_left
        · (intro wS hSw; (try dsimp only at hSw); go_simp; try with_reducible rfl)
        simp only [Act.put, List.getElem_toArray, List.getElem_cons_zero, List.getElem_cons_succ, List.setIfInBounds_toArray, List.set_cons_zero, List.set_cons_succ]
        refine wpAnyH_take (i := 19) (v := ?_) rfl (by kernel_rfl) (by kernel_rfl) (by kernel_rfl) (fun _ _ _ h => h) (Or.inl ⟨by rfl, ?_⟩) (sK _ HG1.out) ?_
        rotate_left
        · (intro wS hSw; (try dsimp only at hSw); go_simp; try with_reducible rfl)
        simp only [Act.put, List.getElem_toArray, List.getElem_cons_zero, List.getElem_cons_succ, List.setIfInBounds_toArray, List.set_cons_zero, List.set_cons_succ]
        refine wpAnyH_take (i := 20) (v := ?_) rfl (by kernel_rfl) (by kernel_rfl) (by kernel_rfl) (fun _ _ _ h => h) (Or.inl ⟨by rfl, ?_⟩) (sK _ HG1.out) ?_
        rotate_left
        · (intro wS hSw; (try dsimp only at hSw); go_simp; try with_reducible rfl)
        simp only [Act.put, List.getElem_toArray, List.getElem_cons_zero, List.getElem_cons_succ, List.setIfInBounds_toArray, List.set_cons_zero, List.set_cons_succ]
        refine wpAnyH_take (i := 21) (v := ?_) rfl (by kernel_rfl) (by kernel_rfl) (by kernel_rfl) (fun _ _ _ h => h) (Or.inl ⟨by rfl, ?_⟩) (sK _ HG1.out) ?_
        rotate_left
        · (intro wS hSw; (try dsimp only at hSw); go_simp; try with_reducible rfl)
        simp only [Act.put, List.getElem_toArray, List.getElem_cons_zero, List.getElem_cons_succ, List.setIfInBounds_toArray, List.set_cons_zero, List.set_cons_succ]
        refine wpAnyH_take (i := 22) (v := ?_) rfl (by kernel_rfl) (by kernel_rfl) (by kernel_rfl) (fun _ _ _ h => h) (Or.inl ⟨by rfl, ?_⟩) (sK _ HG1.out) ?_
        rotate_left
        · (intro wS hSw; (try dsimp only at hSw); go_simp; try with_reducible rfl)
        simp only [Act.put, List.getElem_toArray, List.getElem_cons_zero, List.getElem_cons_succ, List.setIfInBounds_toArray, List.set_cons_zero, List.set_cons_succ]
        refine wpAnyH_ready (rs := [16, 23]) (by kernel_rfl) (by simp) ?_
        refine AllReadyH.cons rfl (fun K hK => ?_) (AllReadyH.cons rfl (fun K hK => ?_) AllReadyH.nil)
        · go_simp
          refine hK.out _ _ (sK _ HG1.out) (fun hHeld => ?_)
          clear hK K hHeld
          try simp only [Act.put, List.getElem_toArray, List.getElem_cons_zero, List.getElem_cons_succ, List.setIfInBounds_toArray, List.set_cons_zero, List.set_cons_succ]
          refine wpAnyH_ready (rs := [23]) (by kernel_rfl) (by simp) ?_
          refine AllReadyH.cons rfl (fun K hK => ?_) AllReadyH.nil
          go_simp
          refine hK.out _ _ (sK _ HG1.out) (fun hHeld => ?_)
          clear hK K hHeld
          try simp only [Act.put, List.getElem_toArray, List.getElem_cons_zero, List.getElem_cons_succ, List.setIfInBounds_toArray, List.set_cons_zero, List.set_cons_succ]
          refine wpAnyH_take (i := 24) (v := ?_) rfl (by kernel_rfl) (by kernel_rfl) (by kernel_rfl) (fun _ _ _ h => h) (Or.inl ⟨by rfl, ?_⟩) (sK _ HG1.out) ?_
          rotate_left
          · (intro wS hSw; (try dsimp only at hSw); go_simp; try with_reducible rfl)
          simp only [Act.put, List.getElem_toArray, List.getElem_cons_zero, List.getElem_cons_succ, List.setIfInBounds_toArray, List.set_cons_zero, List.set_cons_succ]
          refine wpAnyH_ready (rs := [25]) (by kernel_rfl) (by simp) ?_
          refine AllReadyH.cons rfl (fun K hK => ?_) AllReadyH.nil
          go_simp
          clear m0 m1 m2 n0 n1 n2 md0 md1 md2 nd0 nd1 nd2 fm0 fm1 fm2 fn0 fn1 fn2 gm0 gm1 gm2 gn0 gn1 gn2
          have hO2 := row_set (i := k) (x := q0) (y := q1) (z := q2) (by simp [HN.out]) hk HO1.out
          have hG2 : Blk (((r1.setCell ⟨r, k * 3, none⟩ (.int .i64 q0)).setCell ⟨r, k * 3 + 1, none⟩ (.int .i64 q1)).setCell ⟨r, k * 3 + 2, none⟩ (.int .i64 q2)).drew g 55 #[.slice (some ⟨r, 0, none⟩) n c] := (((HG1.out.far (p := ⟨r, k * 3, none⟩) hne _).far (p := ⟨r, k * 3 + 1, none⟩) hne _).far (p := ⟨r, k * 3 + 2, none⟩) hne _)
          have hF2 : Fr (fun x => x = r) w (((r1.setCell ⟨r, k * 3, none⟩ (.int .i64 q0)).setCell ⟨r, k * 3 + 1, none⟩ (.int .i64 q1)).setCell ⟨r, k * 3 + 2, none⟩ (.int .i64 q2)).drew := (((FF1.out.setCell (Or.inr rfl) _).setCell (Or.inr rfl) _).setCell (Or.inr rfl) _).drew
          have hQ2 : At (((r1.setCell ⟨r, k * 3, none⟩ (.int .i64 q0)).setCell ⟨r, k * 3 + 1, none⟩ (.int .i64 q1)).setCell ⟨r, k * 3 + 2, none⟩ (.int .i64 q2)).drew r (q * 3) #[.int .i64 q0, .int .i64 q1, .int .i64 q2] := at_apart (by have := HPK.out; omega) HQ.out
          obtain ⟨r3, hr3⟩ : ∃ V, (((r1.setCell ⟨r, k * 3, none⟩ (.int .i64 q0)).setCell ⟨r, k * 3 + 1, none⟩ (.int .i64 q1)).setCell ⟨r, k * 3 + 2, none⟩ (.int .i64 q2)).drew = V := ⟨_, rfl⟩
          rw [hr3] at hO2 hG2 hF2 hQ2 ⊢
          clear hr3
          have HO2 := Lib.hid hO2; have HG2 := Lib.hid hG2; have FF2 := Lib.hid hF2
          have x0 : r3.cell? ⟨r, q * 3, none⟩ = some (.int .i64 q0) := hQ2 0 _ rfl
          have y0 : r3.frozen? ⟨r, q * 3, none⟩ = false := hO2.frozenAt _
          have x1 : r3.cell? ⟨r, q * 3 + 1, none⟩ = some (.int .i64 q1) := hQ2 1 _ rfl
          have y1 : r3.frozen? ⟨r, q * 3 + 1, none⟩ = false := hO2.frozenAt _
          have x2 : r3.cell? ⟨r, q * 3 + 2, none⟩ = some (.int .i64 q2) := hQ2 2 _ rfl
          have y2 : r3.frozen? ⟨r, q * 3 + 2, none⟩ = false := hO2.frozenAt _
          clear hO2 hG2 hF2 hQ2
          refine hK.out _ _ (sK _ HG2.out) (fun hHeld => ?_)
          clear hK K hHeld
          try simp only [Act.put, List.getElem_toArray, List.getElem_cons_zero, List.getElem_cons_succ, List.setIfInBounds_toArray, List.set_cons_zero, List.set_cons_succ]
          refine wpAnyH_take (i := 26) (v := ?_) rfl (by kernel_rfl) (by kernel_rfl) (by kernel_rfl) (fun _ _ _ h => h) (Or.inl ⟨by rfl, ?_⟩) (sK _ HG2.out) ?_
          rotate_left
          · (intro wS hSw; (try dsimp only at hSw); go_simp; try with_reducible rfl)
          simp only [Act.put, List.getElem_toArray, List.getElem_cons_zero, List.getElem_cons_succ, List.setIfInBounds_toArray, List.set_cons_zero, List.set_cons_succ]
          refine wpAnyH_ready (rs := [27]) (by kernel_rfl) (by simp) ?_
          refine AllReadyH.cons rfl (fun K hK => ?_) AllReadyH.nil
          go_simp
          clear x0 x1 x2 y0 y1 y2
          have hO3 := row_set (i := q) (x := a) (y := d) (z := f) (by simp [HN.out]) hqn' HO2.out
          have hG3 : Blk (((r3.setCell ⟨r, q * 3, none⟩ (.int .i64 a)).setCell ⟨r, q * 3 + 1, none⟩ (.int .i64 d)).setCell ⟨r, q * 3 + 2, none⟩ (.int .i64 f)) g 55 #[.slice (some ⟨r, 0, none⟩) n c] := (((HG2.out.far (p := ⟨r, q * 3, none⟩) hne _).far (p := ⟨r, q * 3 + 1, none⟩) hne _).far (p := ⟨r, q * 3 + 2, none⟩) hne _)
          have hF3 : Fr (fun x => x = r) w (((r3.setCell ⟨r, q * 3, none⟩ (.int .i64 a)).setCell ⟨r, q * 3 + 1, none⟩ (.int .i64 d)).setCell ⟨r, q * 3 + 2, none⟩ (.int .i64 f)) := ((FF2.out.setCell (Or.inr rfl) _).setCell (Or.inr rfl) _).setCell (Or.inr rfl) _
          replace hO3 : World.ownsRow (((r3.setCell ⟨r, q * 3, none⟩ (.int .i64 a)).setCell ⟨r, q * 3 + 1, none⟩ (.int .i64 d)).setCell ⟨r, q * 3 + 2, none⟩ (.int .i64 f)) B 24 3 (.slice (some ⟨r, 0, none⟩) n c) n _ := hO3
          obtain ⟨r6, hr6⟩ : ∃ V, (((r3.setCell ⟨r, q * 3, none⟩ (.int .i64 a)).setCell ⟨r, q * 3 + 1, none⟩ (.int .i64 d)).setCell ⟨r, q * 3 + 2, none⟩ (.int .i64 f)) = V := ⟨_, rfl⟩
          rw [hr6] at hO3 hG3 hF3 ⊢
          clear hr6
          have HO3 := Lib.hid hO3; have HG3 := Lib.hid hG3; have FF3 := Lib.hid hF3
          clear hO3 hG3 hF3
          refine hK.out _ _ (sK _ HG3.out) (fun hHeld => ?_)
          clear hK K hHeld
          try simp only [Act.put, List.getElem_toArray, List.getElem_cons_zero, List.getElem_cons_succ, List.setIfInBounds_toArray, List.set_cons_zero, List.set_cons_succ]
          refine wpAnyH_done (by kernel_rfl) ?_ _
          have HOW : Hid (r6.ownsRow B 24 3 (.slice (some ⟨r, 0, none⟩) n c) n (rowM 3 (zE (swE M k q)) n)) := Lib.hid (by have := HO3.out; unfold swE; rw [HE1.out, HE2.out]; exact this)
          have HIW := Lib.hid (sink_step (c := q) HI.out (by rw [HN.out]; exact hk) (by have := HK3.out; omega) (by rw [HN.out]; exact hqn') (by have := HK3.out; omega) HM.out (by rw [HE1.out, HE2.out, ← ltb_iff]; exact hlt))
          have HPW := Lib.hid ((swE_perm (by rw [HN.out]; exact hk) (by rw [HN.out]; exact hqn')).trans HP'.out)
          go_wp2_with fail
          go_roundw
          case rel => exact ⟨q, swE M k q, rfl, Nat.le_of_lt hqn', Lib.hid (by rw [swE_len]; exact HN.out), HPW, HIW, HOW, FF3⟩
          case measure => have := HK3.out; simp [intOf]; omega
        · go_simp
          refine hK.out _ _ (sK _ HG1.out) (fun hHeld => ?_)
          clear hK K hHeld
          try simp only [Act.put, List.getElem_toArray, List.getElem_cons_zero, List.getElem_cons_succ, List.setIfInBounds_toArray, List.set_cons_zero, List.set_cons_succ]
          refine wpAnyH_ready (rs := [16]) (by kernel_rfl) (by simp) ?_
          refine AllReadyH.cons rfl (fun K hK => ?_) AllReadyH.nil
          go_simp
          refine hK.out _ _ (sK _ HG1.out) (fun hHeld => ?_)
          clear hK K hHeld
          try simp only [Act.put, List.getElem_toArray, List.getElem_cons_zero, List.getElem_cons_succ, List.setIfInBounds_toArray, List.set_cons_zero, List.set_cons_succ]
          refine wpAnyH_take (i := 24) (v := ?_) rfl (by kernel_rfl) (by kernel_rfl) (by kernel_rfl) (fun _ _ _ h => h) (Or.inl ⟨by rfl, ?_⟩) (sK _ HG1.out) ?_
          rotate_left
          · (intro wS hSw; (try dsimp only at hSw); go_simp; try with_reducible rfl)
          simp only [Act.put, List.getElem_toArray, List.getElem_cons_zero, List.getElem_cons_succ, List.setIfInBounds_toArray, List.set_cons_zero, List.set_cons_succ]
          refine wpAnyH_ready (rs := [25]) (by kernel_rfl) (by simp) ?_
          refine AllReadyH.cons rfl (fun K hK => ?_) AllReadyH.nil
          go_simp
          clear m0 m1 m2 n0 n1 n2 md0 md1 md2 nd0 nd1 nd2 fm0 fm1 fm2 fn0 fn1 fn2 gm0 gm1 gm2 gn0 gn1 gn2
          have hO2 := row_set (i := k) (x := q0) (y := q1) (z := q2) (by simp [HN.out]) hk HO1.out
          have hG2 : Blk (((r1.setCell ⟨r, k * 3, none⟩ (.int .i64 q0)).setCell ⟨r, k * 3 + 1, none⟩ (.int .i64 q1)).setCell ⟨r, k * 3 + 2, none⟩ (.int .i64 q2)).drew g 55 #[.slice (some ⟨r, 0, none⟩) n c] := (((HG1.out.far (p := ⟨r, k * 3, none⟩) hne _).far (p := ⟨r, k * 3 + 1, none⟩) hne _).far (p := ⟨r, k * 3 + 2, none⟩) hne _)
          have hF2 : Fr (fun x => x = r) w (((r1.setCell ⟨r, k * 3, none⟩ (.int .i64 q0)).setCell ⟨r, k * 3 + 1, none⟩ (.int .i64 q1)).setCell ⟨r, k * 3 + 2, none⟩ (.int .i64 q2)).drew := (((FF1.out.setCell (Or.inr rfl) _).setCell (Or.inr rfl) _).setCell (Or.inr rfl) _).drew
          have hQ2 : At (((r1.setCell ⟨r, k * 3, none⟩ (.int .i64 q0)).setCell ⟨r, k * 3 + 1, none⟩ (.int .i64 q1)).setCell ⟨r, k * 3 + 2, none⟩ (.int .i64 q2)).drew r (q * 3) #[.int .i64 q0, .int .i64 q1, .int .i64 q2] := at_apart (by have := HPK.out; omega) HQ.out
          obtain ⟨r3, hr3⟩ : ∃ V, (((r1.setCell ⟨r, k * 3, none⟩ (.int .i64 q0)).setCell ⟨r, k * 3 + 1, none⟩ (.int .i64 q1)).setCell ⟨r, k * 3 + 2, none⟩ (.int .i64 q2)).drew = V := ⟨_, rfl⟩
          rw [hr3] at hO2 hG2 hF2 hQ2 ⊢
          clear hr3
          have HO2 := Lib.hid hO2; have HG2 := Lib.hid hG2; have FF2 := Lib.hid hF2
          have x0 : r3.cell? ⟨r, q * 3, none⟩ = some (.int .i64 q0) := hQ2 0 _ rfl
          have y0 : r3.frozen? ⟨r, q * 3, none⟩ = false := hO2.frozenAt _
          have x1 : r3.cell? ⟨r, q * 3 + 1, none⟩ = some (.int .i64 q1) := hQ2 1 _ rfl
          have y1 : r3.frozen? ⟨r, q * 3 + 1, none⟩ = false := hO2.frozenAt _
          have x2 : r3.cell? ⟨r, q * 3 + 2, none⟩ = some (.int .i64 q2) := hQ2 2 _ rfl
          have y2 : r3.frozen? ⟨r, q * 3 + 2, none⟩ = false := hO2.frozenAt _
          clear hO2 hG2 hF2 hQ2
          refine hK.out _ _ (sK _ HG2.out) (fun hHeld => ?_)
          clear hK K hHeld
          try simp only [Act.put, List.getElem_toArray, List.getElem_cons_zero, List.getElem_cons_succ, List.setIfInBounds_toArray, List.set_cons_zero, List.set_cons_succ]
          refine wpAnyH_take (i := 26) (v := ?_) rfl (by kernel_rfl) (by kernel_rfl) (by kernel_rfl) (fun _ _ _ h => h) (Or.inl ⟨by rfl, ?_⟩) (sK _ HG2.out) ?_
          rotate_left
          · (intro wS hSw; (try dsimp only at hSw); go_simp; try with_reducible rfl)
          simp only [Act.put, List.getElem_toArray, List.getElem_cons_zero, List.getElem_cons_succ, List.setIfInBounds_toArray, List.set_cons_zero, List.set_cons_succ]
          refine wpAnyH_ready (rs := [27]) (by kernel_rfl) (by simp) ?_
          refine AllReadyH.cons rfl (fun K hK => ?_) AllReadyH.nil
          go_simp
          clear x0 x1 x2 y0 y1 y2
          have hO3 := row_set (i := q) (x := a) (y := d) (z := f) (by simp [HN.out]) hqn' HO2.out
          have hG3 : Blk (((r3.setCell ⟨r, q * 3, none⟩ (.int .i64 a)).setCell ⟨r, q * 3 + 1, none⟩ (.int .i64 d)).setCell ⟨r, q * 3 + 2, none⟩ (.int .i64 f)) g 55 #[.slice (some ⟨r, 0, none⟩) n c] := (((HG2.out.far (p := ⟨r, q * 3, none⟩) hne _).far (p := ⟨r, q * 3 + 1, none⟩) hne _).far (p := ⟨r, q * 3 + 2, none⟩) hne _)
          have hF3 : Fr (fun x => x = r) w (((r3.setCell ⟨r, q * 3, none⟩ (.int .i64 a)).setCell ⟨r, q * 3 + 1, none⟩ (.int .i64 d)).setCell ⟨r, q * 3 + 2, none⟩ (.int .i64 f)) := ((FF2.out.setCell (Or.inr rfl) _).setCell (Or.inr rfl) _).setCell (Or.inr rfl) _
          replace hO3 : World.ownsRow (((r3.setCell ⟨r, q * 3, none⟩ (.int .i64 a)).setCell ⟨r, q * 3 + 1, none⟩ (.int .i64 d)).setCell ⟨r, q * 3 + 2, none⟩ (.int .i64 f)) B 24 3 (.slice (some ⟨r, 0, none⟩) n c) n _ := hO3
          obtain ⟨r6, hr6⟩ : ∃ V, (((r3.setCell ⟨r, q * 3, none⟩ (.int .i64 a)).setCell ⟨r, q * 3 + 1, none⟩ (.int .i64 d)).setCell ⟨r, q * 3 + 2, none⟩ (.int .i64 f)) = V := ⟨_, rfl⟩
          rw [hr6] at hO3 hG3 hF3 ⊢
          clear hr6
          have HO3 := Lib.hid hO3; have HG3 := Lib.hid hG3; have FF3 := Lib.hid hF3
          clear hO3 hG3 hF3
          refine hK.out _ _ (sK _ HG3.out) (fun hHeld => ?_)
          clear hK K hHeld
          try simp only [Act.put, List.getElem_toArray, List.getElem_cons_zero, List.getElem_cons_succ, List.setIfInBounds_toArray, List.set_cons_zero, List.set_cons_succ]
          refine wpAnyH_done (by kernel_rfl) ?_ _
          have HOW : Hid (r6.ownsRow B 24 3 (.slice (some ⟨r, 0, none⟩) n c) n (rowM 3 (zE (swE M k q)) n)) := Lib.hid (by have := HO3.out; unfold swE; rw [HE1.out, HE2.out]; exact this)
          have HIW := Lib.hid (sink_step (c := q) HI.out (by rw [HN.out]; exact hk) (by have := HK3.out; omega) (by rw [HN.out]; exact hqn') (by have := HK3.out; omega) HM.out (by rw [HE1.out, HE2.out, ← ltb_iff]; exact hlt))
          have HPW := Lib.hid ((swE_perm (by rw [HN.out]; exact hk) (by rw [HN.out]; exact hqn')).trans HP'.out)
          go_wp2_with fail
          go_roundw
          case rel => exact ⟨q, swE M k q, rfl, Nat.le_of_lt hqn', Lib.hid (by rw [swE_len]; exact HN.out), HPW, HIW, HOW, FF3⟩
          case measure => have := HK3.out; simp [intOf]; omega
      · have EE : Hid (Below r0.heap.size r0 r0) := Lib.hid (Below.refl _ _)
        have kH0 : r0.cell? ⟨g, 0, none⟩ = some (.slice (some ⟨r, 0, none⟩) n c) := HH.out.cell 0
        have kP0 : r0.cell? ⟨r, k * 3, none⟩ = some (.int .i64 a) := HP.out 0 _ rfl
        have kP1 : r0.cell? ⟨r, k * 3 + 1, none⟩ = some (.int .i64 d) := HP.out 1 _ rfl
        have kP2 : r0.cell? ⟨r, k * 3 + 2, none⟩ = some (.int .i64 f) := HP.out 2 _ rfl
        have kQ0 : r0.cell? ⟨r, q * 3, none⟩ = some (.int .i64 q0) := HQ.out 0 _ rfl
        have kQ1 : r0.cell? ⟨r, q * 3 + 1, none⟩ = some (.int .i64 q1) := HQ.out 1 _ rfl
        have kQ2 : r0.cell? ⟨r, q * 3 + 2, none⟩ = some (.int .i64 q2) := HQ.out 2 _ rfl
        go_wp2_with fail
        have sK : ∀ X, Blk X (g) 55 #[.slice (some ⟨r, 0, none⟩) n c] → At X r (k * 3) #[.int .i64 a, .int .i64 d, .int .i64 f] → At X r (q * 3) #[.int .i64 q0, .int .i64 q1, .int .i64 q2] → (fun X => X.cell? ⟨g, 0, none⟩ = some (.slice (some ⟨r, 0, none⟩) n c) ∧ X.cell? ⟨r, k * 3, none⟩ = some (.int .i64 a) ∧ X.cell? ⟨r, k * 3 + 1, none⟩ = some (.int .i64 d) ∧ X.cell? ⟨r, k * 3 + 2, none⟩ = some (.int .i64 f) ∧ X.cell? ⟨r, q * 3, none⟩ = some (.int .i64 q0) ∧ X.cell? ⟨r, q * 3 + 1, none⟩ = some (.int .i64 q1) ∧ X.cell? ⟨r, q * 3 + 2, none⟩ = some (.int .i64 q2)) X := fun X hH hP hQ => ⟨hH.cell 0, hP 0 _ rfl, hP 1 _ rfl, hP 2 _ rfl, hQ 0 _ rfl, hQ 1 _ rfl, hQ 2 _ rfl⟩
        have LH0 := Lib.hid (HH.out.drew)
        have LP0 := Lib.hid (HP.out.drew)
        have LQ0 := Lib.hid (HQ.out.drew)
        have E0 := Lib.hid (EE.out.drew)
        clear kH0 kP0 kP1 kP2 kQ0 kQ1 kQ2
        refine wp_region_held_drew (S := (fun X => X.cell? ⟨g, 0, none⟩ = some (.slice (some ⟨r, 0, none⟩) n c) ∧ X.cell? ⟨r, k * 3, none⟩ = some (.int .i64 a) ∧ X.cell? ⟨r, k * 3 + 1, none⟩ = some (.int .i64 d) ∧ X.cell? ⟨r, k * 3 + 2, none⟩ = some (.int .i64 f) ∧ X.cell? ⟨r, q * 3, none⟩ = some (.int .i64 q0) ∧ X.cell? ⟨r, q * 3 + 1, none⟩ = some (.int .i64 q1) ∧ X.cell? ⟨r, q * 3 + 2, none⟩ = some (.int .i64 q2))) (by kernel_rfl) (sK _ LH0.out LP0.out LQ0.out) (fun hHeld => ?_)
        clear hHeld
        refine wpAnyH_take (i := 0) (v := ?_) rfl (by kernel_rfl) (by kernel_rfl) (by kernel_rfl) (fun _ _ _ h => h) (Or.inl ⟨by rfl, ?_⟩) (sK _ LH0.out LP0.out LQ0.out) ?_
        rotate_left
        · (intro wS hSw; (try dsimp only at hSw); go_simp; try with_reducible rfl)
        simp only [Act.put, List.getElem_toArray, List.getElem_cons_zero, List.getElem_cons_succ, List.setIfInBounds_toArray, List.set_cons_zero, List.set_cons_succ]
        refine wpAnyH_take (i := 1) (v := ?_) rfl (by kernel_rfl) (by kernel_rfl) (by kernel_rfl) (fun _ _ _ h => h) (Or.inl ⟨by rfl, ?_⟩) (sK _ LH0.out LP0.out LQ0.out) ?_
        rotate_left
        · (intro wS hSw; (try dsimp only at hSw); go_simp; try with_reducible rfl)
        simp only [Act.put, List.getElem_toArray, List.getElem_cons_zero, List.getElem_cons_succ, List.setIfInBounds_toArray, List.set_cons_zero, List.set_cons_succ]
        refine wpAnyH_take (i := 2) (v := ?_) rfl (by kernel_rfl) (by kernel_rfl) (by kernel_rfl) (fun _ _ _ h => h) (Or.inl ⟨by rfl, ?_⟩) (sK _ LH0.out LP0.out LQ0.out) ?_
        rotate_left
        · (intro wS hSw; (try dsimp only at hSw); go_simp; try with_reducible rfl)
        simp only [Act.put, List.getElem_toArray, List.getElem_cons_zero, List.getElem_cons_succ, List.setIfInBounds_toArray, List.set_cons_zero, List.set_cons_succ]
        refine wpAnyH_take (i := 3) (v := ?_) rfl (by kernel_rfl) (by kernel_rfl) (by kernel_rfl) (fun _ _ _ h => h) (Or.inl ⟨by rfl, ?_⟩) (sK _ LH0.out LP0.out LQ0.out) ?_
        rotate_left
        · (intro wS hSw; (try dsimp only at hSw); go_simp; try with_reducible rfl)
        simp only [Act.put, List.getElem_toArray, List.getElem_cons_zero, List.getElem_cons_succ, List.setIfInBounds_toArray, List.set_cons_zero, List.set_cons_succ]
        refine wpAnyH_take (i := 4) (v := ?_) rfl (by kernel_rfl) (by kernel_rfl) (by kernel_rfl) (fun _ _ _ h => h) (Or.inl ⟨by rfl, ?_⟩) (sK _ LH0.out LP0.out LQ0.out) ?_
        rotate_left
        · (intro wS hSw; (try dsimp only at hSw); go_simp; try with_reducible rfl)
        simp only [Act.put, List.getElem_toArray, List.getElem_cons_zero, List.getElem_cons_succ, List.setIfInBounds_toArray, List.set_cons_zero, List.set_cons_succ]
        refine wpAnyH_take (i := 5) (v := ?_) rfl (by kernel_rfl) (by kernel_rfl) (by kernel_rfl) (fun _ _ _ h => h) (Or.inl ⟨by rfl, ?_⟩) (sK _ LH0.out LP0.out LQ0.out) ?_
        rotate_left
        · (intro wS hSw; (try dsimp only at hSw); go_simp; try with_reducible rfl)
        simp only [Act.put, List.getElem_toArray, List.getElem_cons_zero, List.getElem_cons_succ, List.setIfInBounds_toArray, List.set_cons_zero, List.set_cons_succ]
        refine wpAnyH_take (i := 6) (v := ?_) rfl (by kernel_rfl) (by kernel_rfl) (by kernel_rfl) (fun _ _ _ h => h) (Or.inl ⟨by rfl, ?_⟩) (sK _ LH0.out LP0.out LQ0.out) ?_
        rotate_left
        · (intro wS hSw; (try dsimp only at hSw); go_simp; try with_reducible rfl)
        simp only [Act.put, List.getElem_toArray, List.getElem_cons_zero, List.getElem_cons_succ, List.setIfInBounds_toArray, List.set_cons_zero, List.set_cons_succ]
        refine wpAnyH_take (i := 7) (v := ?_) rfl (by kernel_rfl) (by kernel_rfl) (by kernel_rfl) (fun _ _ _ h => h) (Or.inl ⟨by rfl, ?_⟩) (sK _ LH0.out LP0.out LQ0.out) ?_
        rotate_left
        · (intro wS hSw; (try dsimp only at hSw); go_simp; try with_reducible rfl)
        simp only [Act.put, List.getElem_toArray, List.getElem_cons_zero, List.getElem_cons_succ, List.setIfInBounds_toArray, List.set_cons_zero, List.set_cons_succ]
        refine wpAnyH_take (i := 8) (v := ?_) rfl (by kernel_rfl) (by kernel_rfl) (by kernel_rfl) (fun _ _ _ h => h) (Or.inl ⟨by rfl, ?_⟩) (sK _ LH0.out LP0.out LQ0.out) ?_
        rotate_left
        · (intro wS hSw; (try dsimp only at hSw); go_simp; try with_reducible rfl)
        simp only [Act.put, List.getElem_toArray, List.getElem_cons_zero, List.getElem_cons_succ, List.setIfInBounds_toArray, List.set_cons_zero, List.set_cons_succ]
        refine wpAnyH_take (i := 9) (v := ?_) rfl (by kernel_rfl) (by kernel_rfl) (by kernel_rfl) (fun _ _ _ h => h) (Or.inl ⟨by rfl, ?_⟩) (sK _ LH0.out LP0.out LQ0.out) ?_
        rotate_left
        · (intro wS hSw; (try dsimp only at hSw); go_simp; try with_reducible rfl)
        simp only [Act.put, List.getElem_toArray, List.getElem_cons_zero, List.getElem_cons_succ, List.setIfInBounds_toArray, List.set_cons_zero, List.set_cons_succ]
        refine wpAnyH_take (i := 10) (v := ?_) rfl (by kernel_rfl) (by kernel_rfl) (by kernel_rfl) (fun _ _ _ h => h) (Or.inl ⟨by rfl, ?_⟩) (sK _ LH0.out LP0.out LQ0.out) ?_
        rotate_left
        · (intro wS hSw; (try dsimp only at hSw); go_simp; try with_reducible rfl)
        simp only [Act.put, List.getElem_toArray, List.getElem_cons_zero, List.getElem_cons_succ, List.setIfInBounds_toArray, List.set_cons_zero, List.set_cons_succ]
        refine wpAnyH_take (i := 11) (v := ?_) rfl (by kernel_rfl) (by kernel_rfl) (by kernel_rfl) (fun _ _ _ h => h) (Or.inl ⟨by rfl, ?_⟩) (sK _ LH0.out LP0.out LQ0.out) ?_
        rotate_left
        · (intro wS hSw; (try dsimp only at hSw); go_simp; try with_reducible rfl)
        simp only [Act.put, List.getElem_toArray, List.getElem_cons_zero, List.getElem_cons_succ, List.setIfInBounds_toArray, List.set_cons_zero, List.set_cons_succ]
        refine wpAnyH_take (i := 12) (v := ?_) rfl (by kernel_rfl) (by kernel_rfl) (by kernel_rfl) (fun _ _ _ h => h) (Or.inl ⟨by rfl, ?_⟩) (sK _ LH0.out LP0.out LQ0.out) ?_
        rotate_left
        · (intro wS hSw; (try dsimp only at hSw); go_simp; try with_reducible rfl)
        simp only [Act.put, List.getElem_toArray, List.getElem_cons_zero, List.getElem_cons_succ, List.setIfInBounds_toArray, List.set_cons_zero, List.set_cons_succ]
        refine wpAnyH_take (i := 13) (v := ?_) rfl (by kernel_rfl) (by kernel_rfl) (by kernel_rfl) (fun _ _ _ h => h) (Or.inl ⟨by rfl, ?_⟩) (sK _ LH0.out LP0.out LQ0.out) ?_
        rotate_left
        · (intro wS hSw; (try dsimp only at hSw); go_simp; try with_reducible rfl)
        simp only [Act.put, List.getElem_toArray, List.getElem_cons_zero, List.getElem_cons_succ, List.setIfInBounds_toArray, List.set_cons_zero, List.set_cons_succ]
        refine wpAnyH_ready (rs := [14]) (by kernel_rfl) (by simp) ?_
        refine AllReadyH.cons rfl (fun K hK => ?_) AllReadyH.nil
        go_simp
        refine (less_any (q0, q1, q2) (a, d, f) _).mono ?_
        rintro e r1 ⟨rfl, hb⟩
        have LH1 := Lib.hid (Blk.next (w := r0.drew) LH0.out hb)
        have LP1 := Lib.hid (At.next (w := r0.drew) LP0.out hb)
        have LQ1 := Lib.hid (At.next (w := r0.drew) LQ0.out hb)
        have E1 := Lib.hid (E0.out.trans (hb.mono E0.out.size))
        rw [hlt]
        clear hb
        go_wp2_with fail
        refine hK.out _ _ (sK _ LH1.out LP1.out LQ1.out) (fun hHeld => ?_)
        clear hK K hHeld
        try simp only [Act.put, List.getElem_toArray, List.getElem_cons_zero, List.getElem_cons_succ, List.setIfInBounds_toArray, List.set_cons_zero, List.set_cons_succ]
        refine wpAnyH_take (i := 15) (v := ?_) rfl (by kernel_rfl) (by kernel_rfl) (by kernel_rfl) (fun _ _ _ h => h) (Or.inl ⟨by rfl, ?_⟩) (sK _ LH1.out LP1.out LQ1.out) ?_
        rotate_left
        · (intro wS hSw; (try dsimp only at hSw); go_simp; try with_reducible rfl)
        simp only [Act.put, List.getElem_toArray, List.getElem_cons_zero, List.getElem_cons_succ, List.setIfInBounds_toArray, List.set_cons_zero, List.set_cons_succ]
        refine wpAnyH_done (by kernel_rfl) ?_ _
        have HO1 := Lib.hid (ownM_below HO1.out E1.out)
        have FF1 := Lib.hid (FF1.out.below E1.out)
        go_wp2_with fail
        go_end0
        exact ⟨rfl, M, HP'.out, sink_done HI.out (fun i i0 hi hp => ltE_trans (by rw [HE1.out, HE2.out, ← ltb_iff, hlt]; simp) (HM.out i i0 hi hp)), HO1.out, FF1.out⟩
    · have hon : o < n := by omega
      have hoi : (o : Int) < (n : Int) := by omega
      have hod : decide ((o : Int) < (n : Int)) = true := decide_eq_true hoi
      have hod2 : decide (o < n) = true := decide_eq_true hon
      have o0 : wr.cell? ⟨r, o * 3, none⟩ = _ := ownM_at HO.out (i := o) (j := 0) hon (by omega)
      have o1 : wr.cell? ⟨r, o * 3 + 1, none⟩ = _ := ownM_at HO.out (i := o) (j := 1) hon (by omega)
      have o2 : wr.cell? ⟨r, o * 3 + 2, none⟩ = _ := ownM_at HO.out (i := o) (j := 2) hon (by omega)
      have e3 : eE M o = (zE M o 0, zE M o 1, zE M o 2) := rfl
      obtain ⟨s0, hs0⟩ : ∃ y, zE M o 0 = y := ⟨_, rfl⟩
      rw [hs0] at o0 e3
      clear hs0
      obtain ⟨s1, hs1⟩ : ∃ y, zE M o 1 = y := ⟨_, rfl⟩
      rw [hs1] at o1 e3
      clear hs1
      obtain ⟨s2, hs2⟩ : ∃ y, zE M o 2 = y := ⟨_, rfl⟩
      rw [hs2] at o2 e3
      clear hs2
      have HE3 := Lib.hid e3; have HS := Lib.hid (at3 o0 o1 o2)
      clear o0 o1 o2 e3 honot
      rcases Bool.eq_false_or_eq_true (ltb (s0, s1, s2) (q0, q1, q2)) with hlo | hlo
      · have kH0 : wr.cell? ⟨g, 0, none⟩ = some (.slice (some ⟨r, 0, none⟩) n c) := HH.out.cell 0
        have kP0 : wr.cell? ⟨r, k * 3, none⟩ = some (.int .i64 a) := HP.out 0 _ rfl
        have kP1 : wr.cell? ⟨r, k * 3 + 1, none⟩ = some (.int .i64 d) := HP.out 1 _ rfl
        have kP2 : wr.cell? ⟨r, k * 3 + 2, none⟩ = some (.int .i64 f) := HP.out 2 _ rfl
        have kQ0 : wr.cell? ⟨r, q * 3, none⟩ = some (.int .i64 q0) := HQ.out 0 _ rfl
        have kQ1 : wr.cell? ⟨r, q * 3 + 1, none⟩ = some (.int .i64 q1) := HQ.out 1 _ rfl
        have kQ2 : wr.cell? ⟨r, q * 3 + 2, none⟩ = some (.int .i64 q2) := HQ.out 2 _ rfl
        have kS0 : wr.cell? ⟨r, o * 3, none⟩ = some (.int .i64 s0) := HS.out 0 _ rfl
        have kS1 : wr.cell? ⟨r, o * 3 + 1, none⟩ = some (.int .i64 s1) := HS.out 1 _ rfl
        have kS2 : wr.cell? ⟨r, o * 3 + 2, none⟩ = some (.int .i64 s2) := HS.out 2 _ rfl
        obtain ⟨hw1, hw2, hw3, hv1, hv2, hv3⟩ := HWS.out
        go_wp2_with fail
        clear hw1 hw2 hw3 hv1 hv2 hv3
        have sK : ∀ X, Blk X (g) 55 #[.slice (some ⟨r, 0, none⟩) n c] → At X r (k * 3) #[.int .i64 a, .int .i64 d, .int .i64 f] → At X r (q * 3) #[.int .i64 q0, .int .i64 q1, .int .i64 q2] → At X r (o * 3) #[.int .i64 s0, .int .i64 s1, .int .i64 s2] → (fun X => X.cell? ⟨g, 0, none⟩ = some (.slice (some ⟨r, 0, none⟩) n c) ∧ X.cell? ⟨r, k * 3, none⟩ = some (.int .i64 a) ∧ X.cell? ⟨r, k * 3 + 1, none⟩ = some (.int .i64 d) ∧ X.cell? ⟨r, k * 3 + 2, none⟩ = some (.int .i64 f) ∧ X.cell? ⟨r, q * 3, none⟩ = some (.int .i64 q0) ∧ X.cell? ⟨r, q * 3 + 1, none⟩ = some (.int .i64 q1) ∧ X.cell? ⟨r, q * 3 + 2, none⟩ = some (.int .i64 q2) ∧ X.cell? ⟨r, o * 3, none⟩ = some (.int .i64 s0) ∧ X.cell? ⟨r, o * 3 + 1, none⟩ = some (.int .i64 s1) ∧ X.cell? ⟨r, o * 3 + 2, none⟩ = some (.int .i64 s2)) X := fun X hH hP hQ hS => ⟨hH.cell 0, hP 0 _ rfl, hP 1 _ rfl, hP 2 _ rfl, hQ 0 _ rfl, hQ 1 _ rfl, hQ 2 _ rfl, hS 0 _ rfl, hS 1 _ rfl, hS 2 _ rfl⟩
        have LH0 := Lib.hid (HH.out.drew)
        have LP0 := Lib.hid (HP.out.drew)
        have LQ0 := Lib.hid (HQ.out.drew)
        have LS0 := Lib.hid (HS.out.drew)
        have E0 := Lib.hid (EE.out.drew)
        clear kH0 kP0 kP1 kP2 kQ0 kQ1 kQ2 kS0 kS1 kS2
        refine wp_region_held_drew (S := (fun X => X.cell? ⟨g, 0, none⟩ = some (.slice (some ⟨r, 0, none⟩) n c) ∧ X.cell? ⟨r, k * 3, none⟩ = some (.int .i64 a) ∧ X.cell? ⟨r, k * 3 + 1, none⟩ = some (.int .i64 d) ∧ X.cell? ⟨r, k * 3 + 2, none⟩ = some (.int .i64 f) ∧ X.cell? ⟨r, q * 3, none⟩ = some (.int .i64 q0) ∧ X.cell? ⟨r, q * 3 + 1, none⟩ = some (.int .i64 q1) ∧ X.cell? ⟨r, q * 3 + 2, none⟩ = some (.int .i64 q2) ∧ X.cell? ⟨r, o * 3, none⟩ = some (.int .i64 s0) ∧ X.cell? ⟨r, o * 3 + 1, none⟩ = some (.int .i64 s1) ∧ X.cell? ⟨r, o * 3 + 2, none⟩ = some (.int .i64 s2))) (by kernel_rfl) (sK _ LH0.out LP0.out LQ0.out LS0.out) (fun hHeld => ?_)
        clear hHeld
        refine wpAnyH_take (i := 0) (v := ?_) rfl (by kernel_rfl) (by kernel_rfl) (by kernel_rfl) (fun _ _ _ h => h) (Or.inl ⟨by rfl, ?_⟩) (sK _ LH0.out LP0.out LQ0.out LS0.out) ?_
        rotate_left
        · (intro wS hSw; (try dsimp only at hSw); go_simp; try with_reducible rfl)
        simp only [Act.put, List.getElem_toArray, List.getElem_cons_zero, List.getElem_cons_succ, List.setIfInBounds_toArray, List.set_cons_zero, List.set_cons_succ]
        refine wpAnyH_take (i := 1) (v := ?_) rfl (by kernel_rfl) (by kernel_rfl) (by kernel_rfl) (fun _ _ _ h => h) (Or.inl ⟨by rfl, ?_⟩) (sK _ LH0.out LP0.out LQ0.out LS0.out) ?_
        rotate_left
        · (intro wS hSw; (try dsimp only at hSw); go_simp; try with_reducible rfl)
        simp only [Act.put, List.getElem_toArray, List.getElem_cons_zero, List.getElem_cons_succ, List.setIfInBounds_toArray, List.set_cons_zero, List.set_cons_succ]
        refine wpAnyH_take (i := 2) (v := ?_) rfl (by kernel_rfl) (by kernel_rfl) (by kernel_rfl) (fun _ _ _ h => h) (Or.inl ⟨by rfl, ?_⟩) (sK _ LH0.out LP0.out LQ0.out LS0.out) ?_
        rotate_left
        · (intro wS hSw; (try dsimp only at hSw); go_simp; try with_reducible rfl)
        simp only [Act.put, List.getElem_toArray, List.getElem_cons_zero, List.getElem_cons_succ, List.setIfInBounds_toArray, List.set_cons_zero, List.set_cons_succ]
        refine wpAnyH_take (i := 3) (v := ?_) rfl (by kernel_rfl) (by kernel_rfl) (by kernel_rfl) (fun _ _ _ h => h) (Or.inl ⟨by rfl, ?_⟩) (sK _ LH0.out LP0.out LQ0.out LS0.out) ?_
        rotate_left
        · (intro wS hSw; (try dsimp only at hSw); go_simp; try with_reducible rfl)
        simp only [Act.put, List.getElem_toArray, List.getElem_cons_zero, List.getElem_cons_succ, List.setIfInBounds_toArray, List.set_cons_zero, List.set_cons_succ]
        refine wpAnyH_take (i := 4) (v := ?_) rfl (by kernel_rfl) (by kernel_rfl) (by kernel_rfl) (fun _ _ _ h => h) (Or.inl ⟨by rfl, ?_⟩) (sK _ LH0.out LP0.out LQ0.out LS0.out) ?_
        rotate_left
        · (intro wS hSw; (try dsimp only at hSw); go_simp; try with_reducible rfl)
        simp only [Act.put, List.getElem_toArray, List.getElem_cons_zero, List.getElem_cons_succ, List.setIfInBounds_toArray, List.set_cons_zero, List.set_cons_succ]
        refine wpAnyH_take (i := 5) (v := ?_) rfl (by kernel_rfl) (by kernel_rfl) (by kernel_rfl) (fun _ _ _ h => h) (Or.inl ⟨by rfl, ?_⟩) (sK _ LH0.out LP0.out LQ0.out LS0.out) ?_
        rotate_left
        · (intro wS hSw; (try dsimp only at hSw); go_simp; try with_reducible rfl)
        simp only [Act.put, List.getElem_toArray, List.getElem_cons_zero, List.getElem_cons_succ, List.setIfInBounds_toArray, List.set_cons_zero, List.set_cons_succ]
        refine wpAnyH_take (i := 6) (v := ?_) rfl (by kernel_rfl) (by kernel_rfl) (by kernel_rfl) (fun _ _ _ h => h) (Or.inl ⟨by rfl, ?_⟩) (sK _ LH0.out LP0.out LQ0.out LS0.out) ?_
        rotate_left
        · (intro wS hSw; (try dsimp only at hSw); go_simp; try with_reducible rfl)
        simp only [Act.put, List.getElem_toArray, List.getElem_cons_zero, List.getElem_cons_succ, List.setIfInBounds_toArray, List.set_cons_zero, List.set_cons_succ]
        refine wpAnyH_take (i := 7) (v := ?_) rfl (by kernel_rfl) (by kernel_rfl) (by kernel_rfl) (fun _ _ _ h => h) (Or.inl ⟨by rfl, ?_⟩) (sK _ LH0.out LP0.out LQ0.out LS0.out) ?_
        rotate_left
        · (intro wS hSw; (try dsimp only at hSw); go_simp; try with_reducible rfl)
        simp only [Act.put, List.getElem_toArray, List.getElem_cons_zero, List.getElem_cons_succ, List.setIfInBounds_toArray, List.set_cons_zero, List.set_cons_succ]
        refine wpAnyH_take (i := 8) (v := ?_) rfl (by kernel_rfl) (by kernel_rfl) (by kernel_rfl) (fun _ _ _ h => h) (Or.inl ⟨by rfl, ?_⟩) (sK _ LH0.out LP0.out LQ0.out LS0.out) ?_
        rotate_left
        · (intro wS hSw; (try dsimp only at hSw); go_simp; try with_reducible rfl)
        simp only [Act.put, List.getElem_toArray, List.getElem_cons_zero, List.getElem_cons_succ, List.setIfInBounds_toArray, List.set_cons_zero, List.set_cons_succ]
        refine wpAnyH_take (i := 9) (v := ?_) rfl (by kernel_rfl) (by kernel_rfl) (by kernel_rfl) (fun _ _ _ h => h) (Or.inl ⟨by rfl, ?_⟩) (sK _ LH0.out LP0.out LQ0.out LS0.out) ?_
        rotate_left
        · (intro wS hSw; (try dsimp only at hSw); go_simp; try with_reducible rfl)
        simp only [Act.put, List.getElem_toArray, List.getElem_cons_zero, List.getElem_cons_succ, List.setIfInBounds_toArray, List.set_cons_zero, List.set_cons_succ]
        refine wpAnyH_take (i := 10) (v := ?_) rfl (by kernel_rfl) (by kernel_rfl) (by kernel_rfl) (fun _ _ _ h => h) (Or.inl ⟨by rfl, ?_⟩) (sK _ LH0.out LP0.out LQ0.out LS0.out) ?_
        rotate_left
        · (intro wS hSw; (try dsimp only at hSw); go_simp; try with_reducible rfl)
        simp only [Act.put, List.getElem_toArray, List.getElem_cons_zero, List.getElem_cons_succ, List.setIfInBounds_toArray, List.set_cons_zero, List.set_cons_succ]
        refine wpAnyH_take (i := 11) (v := ?_) rfl (by kernel_rfl) (by kernel_rfl) (by kernel_rfl) (fun _ _ _ h => h) (Or.inl ⟨by rfl, ?_⟩) (sK _ LH0.out LP0.out LQ0.out LS0.out) ?_
        rotate_left
        · (intro wS hSw; (try dsimp only at hSw); go_simp; try with_reducible rfl)
        simp only [Act.put, List.getElem_toArray, List.getElem_cons_zero, List.getElem_cons_succ, List.setIfInBounds_toArray, List.set_cons_zero, List.set_cons_succ]
        refine wpAnyH_take (i := 12) (v := ?_) rfl (by kernel_rfl) (by kernel_rfl) (by kernel_rfl) (fun _ _ _ h => h) (Or.inl ⟨by rfl, ?_⟩) (sK _ LH0.out LP0.out LQ0.out LS0.out) ?_
        rotate_left
        · (intro wS hSw; (try dsimp only at hSw); go_simp; try with_reducible rfl)
        simp only [Act.put, List.getElem_toArray, List.getElem_cons_zero, List.getElem_cons_succ, List.setIfInBounds_toArray, List.set_cons_zero, List.set_cons_succ]
        refine wpAnyH_take (i := 13) (v := ?_) rfl (by kernel_rfl) (by kernel_rfl) (by kernel_rfl) (fun _ _ _ h => h) (Or.inl ⟨by rfl, ?_⟩) (sK _ LH0.out LP0.out LQ0.out LS0.out) ?_
        rotate_left
        · (intro wS hSw; (try dsimp only at hSw); go_simp; try with_reducible rfl)
        simp only [Act.put, List.getElem_toArray, List.getElem_cons_zero, List.getElem_cons_succ, List.setIfInBounds_toArray, List.set_cons_zero, List.set_cons_succ]
        refine wpAnyH_take (i := 14) (v := ?_) rfl (by kernel_rfl) (by kernel_rfl) (by kernel_rfl) (fun _ _ _ h => h) (Or.inl ⟨by rfl, ?_⟩) (sK _ LH0.out LP0.out LQ0.out LS0.out) ?_
        rotate_left
        · (intro wS hSw; (try dsimp only at hSw); go_simp; try with_reducible rfl)
        simp only [Act.put, List.getElem_toArray, List.getElem_cons_zero, List.getElem_cons_succ, List.setIfInBounds_toArray, List.set_cons_zero, List.set_cons_succ]
        refine wpAnyH_take (i := 15) (v := ?_) rfl (by kernel_rfl) (by kernel_rfl) (by kernel_rfl) (fun _ _ _ h => h) (Or.inl ⟨by rfl, ?_⟩) (sK _ LH0.out LP0.out LQ0.out LS0.out) ?_
        rotate_left
        · (intro wS hSw; (try dsimp only at hSw); go_simp; try with_reducible rfl)
        simp only [Act.put, List.getElem_toArray, List.getElem_cons_zero, List.getElem_cons_succ, List.setIfInBounds_toArray, List.set_cons_zero, List.set_cons_succ]
        refine wpAnyH_take (i := 16) (v := ?_) rfl (by kernel_rfl) (by kernel_rfl) (by kernel_rfl) (fun _ _ _ h => h) (Or.inl ⟨by rfl, ?_⟩) (sK _ LH0.out LP0.out LQ0.out LS0.out) ?_
        rotate_left
        · (intro wS hSw; (try dsimp only at hSw); go_simp; try with_reducible rfl)
        simp only [Act.put, List.getElem_toArray, List.getElem_cons_zero, List.getElem_cons_succ, List.setIfInBounds_toArray, List.set_cons_zero, List.set_cons_succ]
        refine wpAnyH_take (i := 17) (v := ?_) rfl (by kernel_rfl) (by kernel_rfl) (by kernel_rfl) (fun _ _ _ h => h) (Or.inl ⟨by rfl, ?_⟩) (sK _ LH0.out LP0.out LQ0.out LS0.out) ?_
        rotate_left
        · (intro wS hSw; (try dsimp only at hSw); go_simp; try with_reducible rfl)
        simp only [Act.put, List.getElem_toArray, List.getElem_cons_zero, List.getElem_cons_succ, List.setIfInBounds_toArray, List.set_cons_zero, List.set_cons_succ]
        refine wpAnyH_take (i := 18) (v := ?_) rfl (by kernel_rfl) (by kernel_rfl) (by kernel_rfl) (fun _ _ _ h => h) (Or.inl ⟨by rfl, ?_⟩) (sK _ LH0.out LP0.out LQ0.out LS0.out) ?_
        rotate_left
        · (intro wS hSw; (try dsimp only at hSw); go_simp; try with_reducible rfl)
        simp only [Act.put, List.getElem_toArray, List.getElem_cons_zero, List.getElem_cons_succ, List.setIfInBounds_toArray, List.set_cons_zero, List.set_cons_succ]
        refine wpAnyH_take (i := 19) (v := ?_) rfl (by kernel_rfl) (by kernel_rfl) (by kernel_rfl) (fun _ _ _ h => h) (Or.inl ⟨by rfl, ?_⟩) (sK _ LH0.out LP0.out LQ0.out LS0.out) ?_
        rotate_left
        · (intro wS hSw; (try dsimp only at hSw); go_simp; try with_reducible rfl)
        simp only [Act.put, List.getElem_toArray, List.getElem_cons_zero, List.getElem_cons_succ, List.setIfInBounds_toArray, List.set_cons_zero, List.set_cons_succ]
        refine wpAnyH_take (i := 20) (v := ?_) rfl (by kernel_rfl) (by kernel_rfl) (by kernel_rfl) (fun _ _ _ h => h) (Or.inl ⟨by rfl, ?_⟩) (sK _ LH0.out LP0.out LQ0.out LS0.out) ?_
        rotate_left
        · (intro wS hSw; (try dsimp only at hSw); go_simp; try with_reducible rfl)
        simp only [Act.put, List.getElem_toArray, List.getElem_cons_zero, List.getElem_cons_succ, List.setIfInBounds_toArray, List.set_cons_zero, List.set_cons_succ]
        refine wpAnyH_take (i := 21) (v := ?_) rfl (by kernel_rfl) (by kernel_rfl) (by kernel_rfl) (fun _ _ _ h => h) (Or.inl ⟨by rfl, ?_⟩) (sK _ LH0.out LP0.out LQ0.out LS0.out) ?_
        rotate_left
        · (intro wS hSw; (try dsimp only at hSw); go_simp; try with_reducible rfl)
        simp only [Act.put, List.getElem_toArray, List.getElem_cons_zero, List.getElem_cons_succ, List.setIfInBounds_toArray, List.set_cons_zero, List.set_cons_succ]
        refine wpAnyH_ready (rs := [22]) (by kernel_rfl) (by simp) ?_
        refine AllReadyH.cons rfl (fun K hK => ?_) AllReadyH.nil
        go_simp
        refine (less_any (s0, s1, s2) (q0, q1, q2) _).mono ?_
        rintro e r1 ⟨rfl, hb⟩
        have LH1 := Lib.hid (Blk.next (w := wr.drew) LH0.out hb)
        have LP1 := Lib.hid (At.next (w := wr.drew) LP0.out hb)
        have LQ1 := Lib.hid (At.next (w := wr.drew) LQ0.out hb)
        have LS1 := Lib.hid (At.next (w := wr.drew) LS0.out hb)
        have E1 := Lib.hid (E0.out.trans (hb.mono E0.out.size))
        rw [hlo]
        clear hb
        go_wp2_with fail
        refine hK.out _ _ (sK _ LH1.out LP1.out LQ1.out LS1.out) (fun hHeld => ?_)
        clear hK K hHeld
        try simp only [Act.put, List.getElem_toArray, List.getElem_cons_zero, List.getElem_cons_succ, List.setIfInBounds_toArray, List.set_cons_zero, List.set_cons_succ]
        refine wpAnyH_take (i := 23) (v := ?_) rfl (by kernel_rfl) (by kernel_rfl) (by kernel_rfl) (fun _ _ _ h => h) (Or.inl ⟨by rfl, ?_⟩) (sK _ LH1.out LP1.out LQ1.out LS1.out) ?_
        rotate_left
        · (intro wS hSw; (try dsimp only at hSw); go_simp; try with_reducible rfl)
        simp only [Act.put, List.getElem_toArray, List.getElem_cons_zero, List.getElem_cons_succ, List.setIfInBounds_toArray, List.set_cons_zero, List.set_cons_succ]
        refine wpAnyH_done (by kernel_rfl) ?_ _
        have HO1 := Lib.hid (ownM_below HO.out E1.out)
        have FF1 := Lib.hid (FF.out.below E1.out)
        have HH := LH1
        have HP := LP1
        have HQ := LQ1
        have HS := LS1
        have EE := E1
        have kH0 : r1.cell? ⟨g, 0, none⟩ = some (.slice (some ⟨r, 0, none⟩) n c) := HH.out.cell 0
        have kP0 : r1.cell? ⟨r, k * 3, none⟩ = some (.int .i64 a) := HP.out 0 _ rfl
        have kP1 : r1.cell? ⟨r, k * 3 + 1, none⟩ = some (.int .i64 d) := HP.out 1 _ rfl
        have kP2 : r1.cell? ⟨r, k * 3 + 2, none⟩ = some (.int .i64 f) := HP.out 2 _ rfl
        have kQ0 : r1.cell? ⟨r, q * 3, none⟩ = some (.int .i64 q0) := HQ.out 0 _ rfl
        have kQ1 : r1.cell? ⟨r, q * 3 + 1, none⟩ = some (.int .i64 q1) := HQ.out 1 _ rfl
        have kQ2 : r1.cell? ⟨r, q * 3 + 2, none⟩ = some (.int .i64 q2) := HQ.out 2 _ rfl
        have kS0 : r1.cell? ⟨r, o * 3, none⟩ = some (.int .i64 s0) := HS.out 0 _ rfl
        have kS1 : r1.cell? ⟨r, o * 3 + 1, none⟩ = some (.int .i64 s1) := HS.out 1 _ rfl
        have kS2 : r1.cell? ⟨r, o * 3 + 2, none⟩ = some (.int .i64 s2) := HS.out 2 _ rfl
        clear kH0 kP0 kP1 kP2 kQ0 kQ1 kQ2 kS0 kS1 kS2
        clear EE
        have HM : Hid (∀ i, 0 < i → i < M.length → (i - 1) / 2 = k → ¬ ltE (eE M i) (eE M o)) := Lib.hid (fun i i0 hi hp => by
          by_cases e : i = o
          · rw [e]; exact ltE_irr _
          · rw [show i = q by have := HK3.out; omega, HE2.out, HE3.out]; exact ltE_asym ((ltb_iff _ _).1 hlo))
        go_wp2_with fail
        obtain ⟨r0, rfl⟩ : ∃ V, V = r1 := ⟨_, rfl⟩
        rcases Bool.eq_false_or_eq_true (ltb (s0, s1, s2) (a, d, f)) with hlt | hlt
        · have EE : Hid (Below r0.heap.size r0 r0) := Lib.hid (Below.refl _ _)
          have kH0 : r0.cell? ⟨g, 0, none⟩ = some (.slice (some ⟨r, 0, none⟩) n c) := HH.out.cell 0
          have kP0 : r0.cell? ⟨r, k * 3, none⟩ = some (.int .i64 a) := HP.out 0 _ rfl
          have kP1 : r0.cell? ⟨r, k * 3 + 1, none⟩ = some (.int .i64 d) := HP.out 1 _ rfl
          have kP2 : r0.cell? ⟨r, k * 3 + 2, none⟩ = some (.int .i64 f) := HP.out 2 _ rfl
          have kS0 : r0.cell? ⟨r, o * 3, none⟩ = some (.int .i64 s0) := HS.out 0 _ rfl
          have kS1 : r0.cell? ⟨r, o * 3 + 1, none⟩ = some (.int .i64 s1) := HS.out 1 _ rfl
          have kS2 : r0.cell? ⟨r, o * 3 + 2, none⟩ = some (.int .i64 s2) := HS.out 2 _ rfl
          go_wp2_with fail
          have sK : ∀ X, Blk X (g) 55 #[.slice (some ⟨r, 0, none⟩) n c] → At X r (k * 3) #[.int .i64 a, .int .i64 d, .int .i64 f] → At X r (o * 3) #[.int .i64 s0, .int .i64 s1, .int .i64 s2] → (fun X => X.cell? ⟨g, 0, none⟩ = some (.slice (some ⟨r, 0, none⟩) n c) ∧ X.cell? ⟨r, k * 3, none⟩ = some (.int .i64 a) ∧ X.cell? ⟨r, k * 3 + 1, none⟩ = some (.int .i64 d) ∧ X.cell? ⟨r, k * 3 + 2, none⟩ = some (.int .i64 f) ∧ X.cell? ⟨r, o * 3, none⟩ = some (.int .i64 s0) ∧ X.cell? ⟨r, o * 3 + 1, none⟩ = some (.int .i64 s1) ∧ X.cell? ⟨r, o * 3 + 2, none⟩ = some (.int .i64 s2)) X := fun X hH hP hS => ⟨hH.cell 0, hP 0 _ rfl, hP 1 _ rfl, hP 2 _ rfl, hS 0 _ rfl, hS 1 _ rfl, hS 2 _ rfl⟩
          have LH0 := Lib.hid (HH.out.drew)
          have LP0 := Lib.hid (HP.out.drew)
          have LS0 := Lib.hid (HS.out.drew)
          have E0 := Lib.hid (EE.out.drew)
          clear kH0 kP0 kP1 kP2 kS0 kS1 kS2
          refine wp_region_held_drew (S := (fun X => X.cell? ⟨g, 0, none⟩ = some (.slice (some ⟨r, 0, none⟩) n c) ∧ X.cell? ⟨r, k * 3, none⟩ = some (.int .i64 a) ∧ X.cell? ⟨r, k * 3 + 1, none⟩ = some (.int .i64 d) ∧ X.cell? ⟨r, k * 3 + 2, none⟩ = some (.int .i64 f) ∧ X.cell? ⟨r, o * 3, none⟩ = some (.int .i64 s0) ∧ X.cell? ⟨r, o * 3 + 1, none⟩ = some (.int .i64 s1) ∧ X.cell? ⟨r, o * 3 + 2, none⟩ = some (.int .i64 s2))) (by kernel_rfl) (sK _ LH0.out LP0.out LS0.out) (fun hHeld => ?_)
          clear hHeld
          refine wpAnyH_take (i := 0) (v := ?_) rfl (by kernel_rfl) (by kernel_rfl) (by kernel_rfl) (fun _ _ _ h => h) (Or.inl ⟨by rfl, ?_⟩) (sK _ LH0.out LP0.out LS0.out) ?_
          rotate_left
          · (intro wS hSw; (try dsimp only at hSw); go_simp; try with_reducible rfl)
          simp only [Act.put, List.getElem_toArray, List.getElem_cons_zero, List.getElem_cons_succ, List.setIfInBounds_toArray, List.set_cons_zero, List.set_cons_succ]
          refine wpAnyH_take (i := 1) (v := ?_) rfl (by kernel_rfl) (by kernel_rfl) (by kernel_rfl) (fun _ _ _ h => h) (Or.inl ⟨by rfl, ?_⟩) (sK _ LH0.out LP0.out LS0.out) ?_
          rotate_left
          · (intro wS hSw; (try dsimp only at hSw); go_simp; try with_reducible rfl)
          simp only [Act.put, List.getElem_toArray, List.getElem_cons_zero, List.getElem_cons_succ, List.setIfInBounds_toArray, List.set_cons_zero, List.set_cons_succ]
          refine wpAnyH_take (i := 2) (v := ?_) rfl (by kernel_rfl) (by kernel_rfl) (by kernel_rfl) (fun _ _ _ h => h) (Or.inl ⟨by rfl, ?_⟩) (sK _ LH0.out LP0.out LS0.out) ?_
          rotate_left
          · (intro wS hSw; (try dsimp only at hSw); go_simp; try with_reducible rfl)
          simp only [Act.put, List.getElem_toArray, List.getElem_cons_zero, List.getElem_cons_succ, List.setIfInBounds_toArray, List.set_cons_zero, List.set_cons_succ]
          refine wpAnyH_take (i := 3) (v := ?_) rfl (by kernel_rfl) (by kernel_rfl) (by kernel_rfl) (fun _ _ _ h => h) (Or.inl ⟨by rfl, ?_⟩) (sK _ LH0.out LP0.out LS0.out) ?_
          rotate_left
          · (intro wS hSw; (try dsimp only at hSw); go_simp; try with_reducible rfl)
          simp only [Act.put, List.getElem_toArray, List.getElem_cons_zero, List.getElem_cons_succ, List.setIfInBounds_toArray, List.set_cons_zero, List.set_cons_succ]
          refine wpAnyH_take (i := 4) (v := ?_) rfl (by kernel_rfl) (by kernel_rfl) (by kernel_rfl) (fun _ _ _ h => h) (Or.inl ⟨by rfl, ?_⟩) (sK _ LH0.out LP0.out LS0.out) ?_
          rotate_left
          · (intro wS hSw; (try dsimp only at hSw); go_simp; try with_reducible rfl)
          simp only [Act.put, List.getElem_toArray, List.getElem_cons_zero, List.getElem_cons_succ, List.setIfInBounds_toArray, List.set_cons_zero, List.set_cons_succ]
          refine wpAnyH_take (i := 5) (v := ?_) rfl (by kernel_rfl) (by kernel_rfl) (by kernel_rfl) (fun _ _ _ h => h) (Or.inl ⟨by rfl, ?_⟩) (sK _ LH0.out LP0.out LS0.out) ?_
          rotate_left
          · (intro wS hSw; (try dsimp only at hSw); go_simp; try with_reducible rfl)
          simp only [Act.put, List.getElem_toArray, List.getElem_cons_zero, List.getElem_cons_succ, List.setIfInBounds_toArray, List.set_cons_zero, List.set_cons_succ]
          refine wpAnyH_take (i := 6) (v := ?_) rfl (by kernel_rfl) (by kernel_rfl) (by kernel_rfl) (fun _ _ _ h => h) (Or.inl ⟨by rfl, ?_⟩) (sK _ LH0.out LP0.out LS0.out) ?_
          rotate_left
          · (intro wS hSw; (try dsimp only at hSw); go_simp; try with_reducible rfl)
          simp only [Act.put, List.getElem_toArray, List.getElem_cons_zero, List.getElem_cons_succ, List.setIfInBounds_toArray, List.set_cons_zero, List.set_cons_succ]
          refine wpAnyH_take (i := 7) (v := ?_) rfl (by kernel_rfl) (by kernel_rfl) (by kernel_rfl) (fun _ _ _ h => h) (Or.inl ⟨by rfl, ?_⟩) (sK _ LH0.out LP0.out LS0.out) ?_
          rotate_left
          · (intro wS hSw; (try dsimp only at hSw); go_simp; try with_reducible rfl)
          simp only [Act.put, List.getElem_toArray, List.getElem_cons_zero, List.getElem_cons_succ, List.setIfInBounds_toArray, List.set_cons_zero, List.set_cons_succ]
          refine wpAnyH_take (i := 8) (v := ?_) rfl (by kernel_rfl) (by kernel_rfl) (by kernel_rfl) (fun _ _ _ h => h) (Or.inl ⟨by rfl, ?_⟩) (sK _ LH0.out LP0.out LS0.out) ?_
          rotate_left
          · (intro wS hSw; (try dsimp only at hSw); go_simp; try with_reducible rfl)
          simp only [Act.put, List.getElem_toArray, List.getElem_cons_zero, List.getElem_cons_succ, List.setIfInBounds_toArray, List.set_cons_zero, List.set_cons_succ]
          refine wpAnyH_take (i := 9) (v := ?_) rfl (by kernel_rfl) (by kernel_rfl) (by kernel_rfl) (fun _ _ _ h => h) (Or.inl ⟨by rfl, ?_⟩) (sK _ LH0.out LP0.out LS0.out) ?_
          rotate_left
          · (intro wS hSw; (try dsimp only at hSw); go_simp; try with_reducible rfl)
          simp only [Act.put, List.getElem_toArray, List.getElem_cons_zero, List.getElem_cons_succ, List.setIfInBounds_toArray, List.set_cons_zero, List.set_cons_succ]
          refine wpAnyH_take (i := 10) (v := ?_) rfl (by kernel_rfl) (by kernel_rfl) (by kernel_rfl) (fun _ _ _ h => h) (Or.inl ⟨by rfl, ?_⟩) (sK _ LH0.out LP0.out LS0.out) ?_
          rotate_left
          · (intro wS hSw; (try dsimp only at hSw); go_simp; try with_reducible rfl)
          simp only [Act.put, List.getElem_toArray, List.getElem_cons_zero, List.getElem_cons_succ, List.setIfInBounds_toArray, List.set_cons_zero, List.set_cons_succ]
          refine wpAnyH_take (i := 11) (v := ?_) rfl (by kernel_rfl) (by kernel_rfl) (by kernel_rfl) (fun _ _ _ h => h) (Or.inl ⟨by rfl, ?_⟩) (sK _ LH0.out LP0.out LS0.out) ?_
          rotate_left
          · (intro wS hSw; (try dsimp only at hSw); go_simp; try with_reducible rfl)
          simp only [Act.put, List.getElem_toArray, List.getElem_cons_zero, List.getElem_cons_succ, List.setIfInBounds_toArray, List.set_cons_zero, List.set_cons_succ]
          refine wpAnyH_take (i := 12) (v := ?_) rfl (by kernel_rfl) (by kernel_rfl) (by kernel_rfl) (fun _ _ _ h => h) (Or.inl ⟨by rfl, ?_⟩) (sK _ LH0.out LP0.out LS0.out) ?_
          rotate_left
          · (intro wS hSw; (try dsimp only at hSw); go_simp; try with_reducible rfl)
          simp only [Act.put, List.getElem_toArray, List.getElem_cons_zero, List.getElem_cons_succ, List.setIfInBounds_toArray, List.set_cons_zero, List.set_cons_succ]
          refine wpAnyH_take (i := 13) (v := ?_) rfl (by kernel_rfl) (by kernel_rfl) (by kernel_rfl) (fun _ _ _ h => h) (Or.inl ⟨by rfl, ?_⟩) (sK _ LH0.out LP0.out LS0.out) ?_
          rotate_left
          · (intro wS hSw; (try dsimp only at hSw); go_simp; try with_reducible rfl)
          simp only [Act.put, List.getElem_toArray, List.getElem_cons_zero, List.getElem_cons_succ, List.setIfInBounds_toArray, List.set_cons_zero, List.set_cons_succ]
          refine wpAnyH_ready (rs := [14]) (by kernel_rfl) (by simp) ?_
          refine AllReadyH.cons rfl (fun K hK => ?_) AllReadyH.nil
          go_simp
          refine (less_any (s0, s1, s2) (a, d, f) _).mono ?_
          rintro e r1 ⟨rfl, hb⟩
          have LH1 := Lib.hid (Blk.next (w := r0.drew) LH0.out hb)
          have LP1 := Lib.hid (At.next (w := r0.drew) LP0.out hb)
          have LS1 := Lib.hid (At.next (w := r0.drew) LS0.out hb)
          have E1 := Lib.hid (E0.out.trans (hb.mono E0.out.size))
          rw [hlt]
          clear hb
          go_wp2_with fail
          refine hK.out _ _ (sK _ LH1.out LP1.out LS1.out) (fun hHeld => ?_)
          clear hK K hHeld
          try simp only [Act.put, List.getElem_toArray, List.getElem_cons_zero, List.getElem_cons_succ, List.setIfInBounds_toArray, List.set_cons_zero, List.set_cons_succ]
          refine wpAnyH_take (i := 15) (v := ?_) rfl (by kernel_rfl) (by kernel_rfl) (by kernel_rfl) (fun _ _ _ h => h) (Or.inl ⟨by rfl, ?_⟩) (sK _ LH1.out LP1.out LS1.out) ?_
          rotate_left
          · (intro wS hSw; (try dsimp only at hSw); go_simp; try with_reducible rfl)
          simp only [Act.put, List.getElem_toArray, List.getElem_cons_zero, List.getElem_cons_succ, List.setIfInBounds_toArray, List.set_cons_zero, List.set_cons_succ]
          refine wpAnyH_done (by kernel_rfl) ?_ _
          have HO1 := Lib.hid (ownM_below HO1.out E1.out)
          have FF1 := Lib.hid (FF1.out.below E1.out)
          have HH := LH1
          have HP := LP1
          have HS := LS1
          have EE := E1
          have kH0 : r1.cell? ⟨g, 0, none⟩ = some (.slice (some ⟨r, 0, none⟩) n c) := HH.out.cell 0
          have kP0 : r1.cell? ⟨r, k * 3, none⟩ = some (.int .i64 a) := HP.out 0 _ rfl
          have kP1 : r1.cell? ⟨r, k * 3 + 1, none⟩ = some (.int .i64 d) := HP.out 1 _ rfl
          have kP2 : r1.cell? ⟨r, k * 3 + 2, none⟩ = some (.int .i64 f) := HP.out 2 _ rfl
          have kS0 : r1.cell? ⟨r, o * 3, none⟩ = some (.int .i64 s0) := HS.out 0 _ rfl
          have kS1 : r1.cell? ⟨r, o * 3 + 1, none⟩ = some (.int .i64 s1) := HS.out 1 _ rfl
          have kS2 : r1.cell? ⟨r, o * 3 + 2, none⟩ = some (.int .i64 s2) := HS.out 2 _ rfl
          have HG1 := HH
          clear kH0 kP0 kP1 kP2 kS0 kS1 kS2
          clear EE
          go_wp2_with fail
          have hk := hkn
          have HPK := HOK
          have sK : ∀ X, Blk X g 55 #[.slice (some ⟨r, 0, none⟩) n c] → (fun X : World => X.cell? ⟨g, 0, none⟩ = some (.slice (some ⟨r, 0, none⟩) n c)) X := fun X hX => hX.cell 0
          have m0 : r1.cell? ⟨r, k * 3, none⟩ = some (.int .i64 a) := HP.out 0 _ rfl
          have md0 : r1.drew.cell? ⟨r, k * 3, none⟩ = some (.int .i64 a) := m0
          have fm0 : r1.frozen? ⟨r, k * 3, none⟩ = false := HO1.out.frozenAt _
          have gm0 : r1.drew.frozen? ⟨r, k * 3, none⟩ = false := fm0
          have m1 : r1.cell? ⟨r, k * 3 + 1, none⟩ = some (.int .i64 d) := HP.out 1 _ rfl
          have md1 : r1.drew.cell? ⟨r, k * 3 + 1, none⟩ = some (.int .i64 d) := m1
          have fm1 : r1.frozen? ⟨r, k * 3 + 1, none⟩ = false := HO1.out.frozenAt _
          have gm1 : r1.drew.frozen? ⟨r, k * 3 + 1, none⟩ = false := fm1
          have m2 : r1.cell? ⟨r, k * 3 + 2, none⟩ = some (.int .i64 f) := HP.out 2 _ rfl
          have md2 : r1.drew.cell? ⟨r, k * 3 + 2, none⟩ = some (.int .i64 f) := m2
          have fm2 : r1.frozen? ⟨r, k * 3 + 2, none⟩ = false := HO1.out.frozenAt _
          have gm2 : r1.drew.frozen? ⟨r, k * 3 + 2, none⟩ = false := fm2
          have n0 : r1.cell? ⟨r, o * 3, none⟩ = some (.int .i64 s0) := HS.out 0 _ rfl
          have nd0 : r1.drew.cell? ⟨r, o * 3, none⟩ = some (.int .i64 s0) := n0
          have fn0 : r1.frozen? ⟨r, o * 3, none⟩ = false := HO1.out.frozenAt _
          have gn0 : r1.drew.frozen? ⟨r, o * 3, none⟩ = false := fn0
          have n1 : r1.cell? ⟨r, o * 3 + 1, none⟩ = some (.int .i64 s1) := HS.out 1 _ rfl
          have nd1 : r1.drew.cell? ⟨r, o * 3 + 1, none⟩ = some (.int .i64 s1) := n1
          have fn1 : r1.frozen? ⟨r, o * 3 + 1, none⟩ = false := HO1.out.frozenAt _
          have gn1 : r1.drew.frozen? ⟨r, o * 3 + 1, none⟩ = false := fn1
          have n2 : r1.cell? ⟨r, o * 3 + 2, none⟩ = some (.int .i64 s2) := HS.out 2 _ rfl
          have nd2 : r1.drew.cell? ⟨r, o * 3 + 2, none⟩ = some (.int .i64 s2) := n2
          have fn2 : r1.frozen? ⟨r, o * 3 + 2, none⟩ = false := HO1.out.frozenAt _
          have gn2 : r1.drew.frozen? ⟨r, o * 3 + 2, none⟩ = false := fn2
          refine wp_region_held_drew (S := (fun X : World => X.cell? ⟨g, 0, none⟩ = some (.slice (some ⟨r, 0, none⟩) n c))) (by kernel_rfl) (sK _ HG1.out) (fun hHeld => ?_)
          clear hHeld
          refine wpAnyH_take (i := 0) (v := ?_) rfl (by kernel_rfl) (by kernel_rfl) (by kernel_rfl) (fun _ _ _ h => h) (Or.inl ⟨by rfl, ?_⟩) (sK _ HG1.out) ?_
          rotate_left
          · (intro wS hSw; (try dsimp only at hSw); go_simp; try with_reducible rfl)
          simp only [Act.put, List.getElem_toArray, List.getElem_cons_zero, List.getElem_cons_succ, List.setIfInBounds_toArray, List.set_cons_zero, List.set_cons_succ]
          refine wpAnyH_take (i := 1) (v := ?_) rfl (by kernel_rfl) (by kernel_rfl) (by kernel_rfl) (fun _ _ _ h => h) (Or.inl ⟨by rfl, ?_⟩) (sK _ HG1.out) ?_
          rotate_left
          · (intro wS hSw; (try dsimp only at hSw); go_simp; try with_reducible rfl)
          simp only [Act.put, List.getElem_toArray, List.getElem_cons_zero, List.getElem_cons_succ, List.setIfInBounds_toArray, List.set_cons_zero, List.set_cons_succ]
          refine wpAnyH_take (i := 2) (v := ?_) rfl (by kernel_rfl) (by kernel_rfl) (by kernel_rfl) (fun _ _ _ h => h) (Or.inl ⟨by rfl, ?_⟩) (sK _ HG1.out) ?_
          rotate_left
          · (intro wS hSw; (try dsimp only at hSw); go_simp; try with_reducible rfl)
          simp only [Act.put, List.getElem_toArray, List.getElem_cons_zero, List.getElem_cons_succ, List.setIfInBounds_toArray, List.set_cons_zero, List.set_cons_succ]
          refine wpAnyH_take (i := 3) (v := ?_) rfl (by kernel_rfl) (by kernel_rfl) (by kernel_rfl) (fun _ _ _ h => h) (Or.inl ⟨by rfl, ?_⟩) (sK _ HG1.out) ?_
          rotate_left
          · (intro wS hSw; (try dsimp only at hSw); go_simp; try with_reducible rfl)
          simp only [Act.put, List.getElem_toArray, List.getElem_cons_zero, List.getElem_cons_succ, List.setIfInBounds_toArray, List.set_cons_zero, List.set_cons_succ]
          refine wpAnyH_take (i := 4) (v := ?_) rfl (by kernel_rfl) (by kernel_rfl) (by kernel_rfl) (fun _ _ _ h => h) (Or.inl ⟨by rfl, ?_⟩) (sK _ HG1.out) ?_
          rotate_left
          · (intro wS hSw; (try dsimp only at hSw); go_simp; try with_reducible rfl)
          simp only [Act.put, List.getElem_toArray, List.getElem_cons_zero, List.getElem_cons_succ, List.setIfInBounds_toArray, List.set_cons_zero, List.set_cons_succ]
          refine wpAnyH_take (i := 5) (v := ?_) rfl (by kernel_rfl) (by kernel_rfl) (by kernel_rfl) (fun _ _ _ h => h) (Or.inl ⟨by rfl, ?_⟩) (sK _ HG1.out) ?_
          rotate_left
          · (intro wS hSw; (try dsimp only at hSw); go_simp; try with_reducible rfl)
          simp only [Act.put, List.getElem_toArray, List.getElem_cons_zero, List.getElem_cons_succ, List.setIfInBounds_toArray, List.set_cons_zero, List.set_cons_succ]
          refine wpAnyH_take (i := 6) (v := ?_) rfl (by kernel_rfl) (by kernel_rfl) (by kernel_rfl) (fun _ _ _ h => h) (Or.inl ⟨by rfl, ?_⟩) (sK _ HG1.out) ?_
          rotate_left
          · (intro wS hSw; (try dsimp only at hSw); go_simp; try with_reducible rfl)
          simp only [Act.put, List.getElem_toArray, List.getElem_cons_zero, List.getElem_cons_succ, List.setIfInBounds_toArray, List.set_cons_zero, List.set_cons_succ]
          refine wpAnyH_take (i := 7) (v := ?_) rfl (by kernel_rfl) (by kernel_rfl) (by kernel_rfl) (fun _ _ _ h => h) (Or.inl ⟨by rfl, ?_⟩) (sK _ HG1.out) ?_
          rotate_left
          · (intro wS hSw; (try dsimp only at hSw); go_simp; try with_reducible rfl)
          simp only [Act.put, List.getElem_toArray, List.getElem_cons_zero, List.getElem_cons_succ, List.setIfInBounds_toArray, List.set_cons_zero, List.set_cons_succ]
          refine wpAnyH_take (i := 8) (v := ?_) rfl (by kernel_rfl) (by kernel_rfl) (by kernel_rfl) (fun _ _ _ h => h) (Or.inl ⟨by rfl, ?_⟩) (sK _ HG1.out) ?_
          rotate_left
          · (intro wS hSw; (try dsimp only at hSw); go_simp; try with_reducible rfl)
          simp only [Act.put, List.getElem_toArray, List.getElem_cons_zero, List.getElem_cons_succ, List.setIfInBounds_toArray, List.set_cons_zero, List.set_cons_succ]
          refine wpAnyH_take (i := 9) (v := ?_) rfl (by kernel_rfl) (by kernel_rfl) (by kernel_rfl) (fun _ _ _ h => h) (Or.inl ⟨by rfl, ?_⟩) (sK _ HG1.out) ?_
          rotate_left
          · (intro wS hSw; (try dsimp only at hSw); go_simp; try with_reducible rfl)
          simp only [Act.put, List.getElem_toArray, List.getElem_cons_zero, List.getElem_cons_succ, List.setIfInBounds_toArray, List.set_cons_zero, List.set_cons_succ]
          refine wpAnyH_take (i := 10) (v := ?_) rfl (by kernel_rfl) (by kernel_rfl) (by kernel_rfl) (fun _ _ _ h => h) (Or.inl ⟨by rfl, ?_⟩) (sK _ HG1.out) ?_
          rotate_left
          · (intro wS hSw; (try dsimp only at hSw); go_simp; try with_reducible rfl)
          simp only [Act.put, List.getElem_toArray, List.getElem_cons_zero, List.getElem_cons_succ, List.setIfInBounds_toArray, List.set_cons_zero, List.set_cons_succ]
          refine wpAnyH_take (i := 11) (v := ?_) rfl (by kernel_rfl) (by kernel_rfl) (by kernel_rfl) (fun _ _ _ h => h) (Or.inl ⟨by rfl, ?_⟩) (sK _ HG1.out) ?_
          rotate_left
          · (intro wS hSw; (try dsimp only at hSw); go_simp; try with_reducible rfl)
          simp only [Act.put, List.getElem_toArray, List.getElem_cons_zero, List.getElem_cons_succ, List.setIfInBounds_toArray, List.set_cons_zero, List.set_cons_succ]
          refine wpAnyH_take (i := 12) (v := ?_) rfl (by kernel_rfl) (by kernel_rfl) (by kernel_rfl) (fun _ _ _ h => h) (Or.inl ⟨by rfl, ?_⟩) (sK _ HG1.out) ?_
          rotate_left
          · (intro wS hSw; (try dsimp only at hSw); go_simp; try with_reducible rfl)
          simp only [Act.put, List.getElem_toArray, List.getElem_cons_zero, List.getElem_cons_succ, List.setIfInBounds_toArray, List.set_cons_zero, List.set_cons_succ]
          refine wpAnyH_take (i := 13) (v := ?_) rfl (by kernel_rfl) (by kernel_rfl) (by kernel_rfl) (fun _ _ _ h => h) (Or.inl ⟨by rfl, ?_⟩) (sK _ HG1.out) ?_
          rotate_left
          · (intro wS hSw; (try dsimp only at hSw); go_simp; try with_reducible rfl)
          simp only [Act.put, List.getElem_toArray, List.getElem_cons_zero, List.getElem_cons_succ, List.setIfInBounds_toArray, List.set_cons_zero, List.set_cons_succ]
          refine wpAnyH_take (i := 14) (v := ?_) rfl (by kernel_rfl) (by kernel_rfl) (by kernel_rfl) (fun _ _ _ h => h) (Or.inl ⟨by rfl, ?_⟩) (sK _ HG1.out) ?_
          rotate_left
          · (intro wS hSw; (try dsimp only at hSw); go_simp; try with_reducible rfl)
          simp only [Act.put, List.getElem_toArray, List.getElem_cons_zero, List.getElem_cons_succ, List.setIfInBounds_toArray, List.set_cons_zero, List.set_cons_succ]
          refine wpAnyH_take (i := 15) (v := ?_) rfl (by kernel_rfl) (by kernel_rfl) (by kernel_rfl) (fun _ _ _ h => h) (Or.inl ⟨by rfl, ?_⟩) (sK _ HG1.out) ?_
          rotate_left
          · (intro wS hSw; (try dsimp only at hSw); go_simp; try with_reducible rfl)
          simp only [Act.put, List.getElem_toArray, List.getElem_cons_zero, List.getElem_cons_succ, List.setIfInBounds_toArray, List.set_cons_zero, List.set_cons_succ]
          refine wpAnyH_take (i := 17) (v := ?_) rfl (by kernel_rfl) (by kernel_rfl) (by kernel_rfl) (fun _ _ _ h => h) (Or.inl ⟨by rfl, ?_⟩) (sK _ HG1.out) ?_
          rotate_left
          · (intro wS hSw; (try dsimp only at hSw); go_simp; try with_reducible rfl)
          simp only [Act.put, List.getElem_toArray, List.getElem_cons_zero, List.getElem_cons_succ, List.setIfInBounds_toArray, List.set_cons_zero, List.set_cons_succ]
          refine wpAnyH_take (i := 18) (v := ?_) rfl (by kernel_rfl) (by kernel_rfl) (by kernel_rfl) (fun _ _ _ h => h) (Or.inl ⟨by rfl, ?_⟩) (sK _ HG1.out) ?_
          rotate_left
          · (intro wS hSw; (try dsimp only at hSw); go_simp; try with_reducible rfl)
          simp only [Act.put, List.getElem_toArray, List.getElem_cons_zero, List.getElem_cons_succ, List.setIfInBounds_toArray, List.set_cons_zero, List.set_cons_succ]
          refine wpAnyH_take (i := 19) (v := ?_) rfl (by kernel_rfl) (by kernel_rfl) (by kernel_rfl) (fun _ _ _ h => h) (Or.inl ⟨by rfl, ?_⟩) (sK _ HG1.out) ?_
          rotate_left
          · (intro wS hSw; (try dsimp only at hSw); go_simp; try with_reducible rfl)
          simp only [Act.put, List.getElem_toArray, List.getElem_cons_zero, List.getElem_cons_succ, List.setIfInBounds_toArray, List.set_cons_zero, List.set_cons_succ]
          refine wpAnyH_take (i := 20) (v := ?_) rfl (by kernel_rfl) (by kernel_rfl) (by kernel_rfl) (fun _ _ _ h => h) (Or.inl ⟨by rfl, ?_⟩) (sK _ HG1.out) ?_
          rotate_left
          · (intro wS hSw; (try dsimp only at hSw); go_simp; try with_reducible rfl)
          simp only [Act.put, List.getElem_toArray, List.getElem_cons_zero, List.getElem_cons_succ, List.setIfInBounds_toArray, List.set_cons_zero, List.set_cons_succ]
          refine wpAnyH_take (i := 21) (v := ?_) rfl (by kernel_rfl) (by kernel_rfl) (by kernel_rfl) (fun _ _ _ h => h) (Or.inl ⟨by rfl, ?_⟩) (sK _ HG1.out) ?_
          rotate_left
          · (intro wS hSw; (try dsimp only at hSw); go_simp; try with_reducible rfl)
          simp only [Act.put, List.getElem_toArray, List.getElem_cons_zero, List.getElem_cons_succ, List.setIfInBounds_toArray, List.set_cons_zero, List.set_cons_succ]
          refine wpAnyH_take (i := 22) (v := ?_) rfl (by kernel_rfl) (by kernel_rfl) (by kernel_rfl) (fun _ _ _ h => h) (Or.inl ⟨by rfl, ?_⟩) (sK _ HG1.out) ?_
          rotate_left
          · (intro wS hSw; (try dsimp only at hSw); go_simp; try with_reducible rfl)
          simp only [Act.put, List.getElem_toArray, List.getElem_cons_zero, List.getElem_cons_succ, List.setIfInBounds_toArray, List.set_cons_zero, List.set_cons_succ]
          refine wpAnyH_ready (rs := [16, 23]) (by kernel_rfl) (by simp) ?_
          refine AllReadyH.cons rfl (fun K hK => ?_) (AllReadyH.cons rfl (fun K hK => ?_) AllReadyH.nil)
          · go_simp
            refine hK.out _ _ (sK _ HG1.out) (fun hHeld => ?_)
            clear hK K hHeld
            try simp only [Act.put, List.getElem_toArray, List.getElem_cons_zero, List.getElem_cons_succ, List.setIfInBounds_toArray, List.set_cons_zero, List.set_cons_succ]
            refine wpAnyH_ready (rs := [23]) (by kernel_rfl) (by simp) ?_
            refine AllReadyH.cons rfl (fun K hK => ?_) AllReadyH.nil
            go_simp
            refine hK.out _ _ (sK _ HG1.out) (fun hHeld => ?_)
            clear hK K hHeld
            try simp only [Act.put, List.getElem_toArray, List.getElem_cons_zero, List.getElem_cons_succ, List.setIfInBounds_toArray, List.set_cons_zero, List.set_cons_succ]
            refine wpAnyH_take (i := 24) (v := ?_) rfl (by kernel_rfl) (by kernel_rfl) (by kernel_rfl) (fun _ _ _ h => h) (Or.inl ⟨by rfl, ?_⟩) (sK _ HG1.out) ?_
            rotate_left
            · (intro wS hSw; (try dsimp only at hSw); go_simp; try with_reducible rfl)
            simp only [Act.put, List.getElem_toArray, List.getElem_cons_zero, List.getElem_cons_succ, List.setIfInBounds_toArray, List.set_cons_zero, List.set_cons_succ]
            refine wpAnyH_ready (rs := [25]) (by kernel_rfl) (by simp) ?_
            refine AllReadyH.cons rfl (fun K hK => ?_) AllReadyH.nil
            go_simp
            clear m0 m1 m2 n0 n1 n2 md0 md1 md2 nd0 nd1 nd2 fm0 fm1 fm2 fn0 fn1 fn2 gm0 gm1 gm2 gn0 gn1 gn2
            have hO2 := row_set (i := k) (x := s0) (y := s1) (z := s2) (by simp [HN.out]) hk HO1.out
            have hG2 : Blk (((r1.setCell ⟨r, k * 3, none⟩ (.int .i64 s0)).setCell ⟨r, k * 3 + 1, none⟩ (.int .i64 s1)).setCell ⟨r, k * 3 + 2, none⟩ (.int .i64 s2)).drew g 55 #[.slice (some ⟨r, 0, none⟩) n c] := (((HG1.out.far (p := ⟨r, k * 3, none⟩) hne _).far (p := ⟨r, k * 3 + 1, none⟩) hne _).far (p := ⟨r, k * 3 + 2, none⟩) hne _)
            have hF2 : Fr (fun x => x = r) w (((r1.setCell ⟨r, k * 3, none⟩ (.int .i64 s0)).setCell ⟨r, k * 3 + 1, none⟩ (.int .i64 s1)).setCell ⟨r, k * 3 + 2, none⟩ (.int .i64 s2)).drew := (((FF1.out.setCell (Or.inr rfl) _).setCell (Or.inr rfl) _).setCell (Or.inr rfl) _).drew
            have hQ2 : At (((r1.setCell ⟨r, k * 3, none⟩ (.int .i64 s0)).setCell ⟨r, k * 3 + 1, none⟩ (.int .i64 s1)).setCell ⟨r, k * 3 + 2, none⟩ (.int .i64 s2)).drew r (o * 3) #[.int .i64 s0, .int .i64 s1, .int .i64 s2] := at_apart (by have := HPK.out; omega) HS.out
            obtain ⟨r3, hr3⟩ : ∃ V, (((r1.setCell ⟨r, k * 3, none⟩ (.int .i64 s0)).setCell ⟨r, k * 3 + 1, none⟩ (.int .i64 s1)).setCell ⟨r, k * 3 + 2, none⟩ (.int .i64 s2)).drew = V := ⟨_, rfl⟩
            rw [hr3] at hO2 hG2 hF2 hQ2 ⊢
            clear hr3
            have HO2 := Lib.hid hO2; have HG2 := Lib.hid hG2; have FF2 := Lib.hid hF2
            have x0 : r3.cell? ⟨r, o * 3, none⟩ = some (.int .i64 s0) := hQ2 0 _ rfl
            have y0 : r3.frozen? ⟨r, o * 3, none⟩ = false := hO2.frozenAt _
            have x1 : r3.cell? ⟨r, o * 3 + 1, none⟩ = some (.int .i64 s1) := hQ2 1 _ rfl
            have y1 : r3.frozen? ⟨r, o * 3 + 1, none⟩ = false := hO2.frozenAt _
            have x2 : r3.cell? ⟨r, o * 3 + 2, none⟩ = some (.int .i64 s2) := hQ2 2 _ rfl
            have y2 : r3.frozen? ⟨r, o * 3 + 2, none⟩ = false := hO2.frozenAt _
            clear hO2 hG2 hF2 hQ2
            refine hK.out _ _ (sK _ HG2.out) (fun hHeld => ?_)
            clear hK K hHeld
            try simp only [Act.put, List.getElem_toArray, List.getElem_cons_zero, List.getElem_cons_succ, List.setIfInBounds_toArray, List.set_cons_zero, List.set_cons_succ]
            refine wpAnyH_take (i := 26) (v := ?_) rfl (by kernel_rfl) (by kernel_rfl) (by kernel_rfl) (fun _ _ _ h => h) (Or.inl ⟨by rfl, ?_⟩) (sK _ HG2.out) ?_
            rotate_left
            · (intro wS hSw; (try dsimp only at hSw); go_simp; try with_reducible rfl)
            simp only [Act.put, List.getElem_toArray, List.getElem_cons_zero, List.getElem_cons_succ, List.setIfInBounds_toArray, List.set_cons_zero, List.set_cons_succ]
            refine wpAnyH_ready (rs := [27]) (by kernel_rfl) (by simp) ?_
            refine AllReadyH.cons rfl (fun K hK => ?_) AllReadyH.nil
            go_simp
            clear x0 x1 x2 y0 y1 y2
            have hO3 := row_set (i := o) (x := a) (y := d) (z := f) (by simp [HN.out]) hon HO2.out
            have hG3 : Blk (((r3.setCell ⟨r, o * 3, none⟩ (.int .i64 a)).setCell ⟨r, o * 3 + 1, none⟩ (.int .i64 d)).setCell ⟨r, o * 3 + 2, none⟩ (.int .i64 f)) g 55 #[.slice (some ⟨r, 0, none⟩) n c] := (((HG2.out.far (p := ⟨r, o * 3, none⟩) hne _).far (p := ⟨r, o * 3 + 1, none⟩) hne _).far (p := ⟨r, o * 3 + 2, none⟩) hne _)
            have hF3 : Fr (fun x => x = r) w (((r3.setCell ⟨r, o * 3, none⟩ (.int .i64 a)).setCell ⟨r, o * 3 + 1, none⟩ (.int .i64 d)).setCell ⟨r, o * 3 + 2, none⟩ (.int .i64 f)) := ((FF2.out.setCell (Or.inr rfl) _).setCell (Or.inr rfl) _).setCell (Or.inr rfl) _
            replace hO3 : World.ownsRow (((r3.setCell ⟨r, o * 3, none⟩ (.int .i64 a)).setCell ⟨r, o * 3 + 1, none⟩ (.int .i64 d)).setCell ⟨r, o * 3 + 2, none⟩ (.int .i64 f)) B 24 3 (.slice (some ⟨r, 0, none⟩) n c) n _ := hO3
            obtain ⟨r6, hr6⟩ : ∃ V, (((r3.setCell ⟨r, o * 3, none⟩ (.int .i64 a)).setCell ⟨r, o * 3 + 1, none⟩ (.int .i64 d)).setCell ⟨r, o * 3 + 2, none⟩ (.int .i64 f)) = V := ⟨_, rfl⟩
            rw [hr6] at hO3 hG3 hF3 ⊢
            clear hr6
            have HO3 := Lib.hid hO3; have HG3 := Lib.hid hG3; have FF3 := Lib.hid hF3
            clear hO3 hG3 hF3
            refine hK.out _ _ (sK _ HG3.out) (fun hHeld => ?_)
            clear hK K hHeld
            try simp only [Act.put, List.getElem_toArray, List.getElem_cons_zero, List.getElem_cons_succ, List.setIfInBounds_toArray, List.set_cons_zero, List.set_cons_succ]
            refine wpAnyH_done (by kernel_rfl) ?_ _
            have HOW : Hid (r6.ownsRow B 24 3 (.slice (some ⟨r, 0, none⟩) n c) n (rowM 3 (zE (swE M k o)) n)) := Lib.hid (by have := HO3.out; unfold swE; rw [HE1.out, HE3.out]; exact this)
            have HIW := Lib.hid (sink_step (c := o) HI.out (by rw [HN.out]; exact hk) (by have := HK3.out; omega) (by rw [HN.out]; exact hon) (by have := HK3.out; omega) HM.out (by rw [HE1.out, HE3.out, ← ltb_iff]; exact hlt))
            have HPW := Lib.hid ((swE_perm (by rw [HN.out]; exact hk) (by rw [HN.out]; exact hon)).trans HP'.out)
            go_wp2_with fail
            go_roundw
            case rel => exact ⟨o, swE M k o, rfl, Nat.le_of_lt hon, Lib.hid (by rw [swE_len]; exact HN.out), HPW, HIW, HOW, FF3⟩
            case measure => have := HK3.out; simp [intOf]; omega
          · go_simp
            refine hK.out _ _ (sK _ HG1.out) (fun hHeld => ?_)
            clear hK K hHeld
            try simp only [Act.put, List.getElem_toArray, List.getElem_cons_zero, List.getElem_cons_succ, List.setIfInBounds_toArray, List.set_cons_zero, List.set_cons_succ]
            refine wpAnyH_ready (rs := [16]) (by kernel_rfl) (by simp) ?_
            refine AllReadyH.cons rfl (fun K hK => ?_) AllReadyH.nil
            go_simp
            refine hK.out _ _ (sK _ HG1.out) (fun hHeld => ?_)
            clear hK K hHeld
            try simp only [Act.put, List.getElem_toArray, List.getElem_cons_zero, List.getElem_cons_succ, List.setIfInBounds_toArray, List.set_cons_zero, List.set_cons_succ]
            refine wpAnyH_take (i := 24) (v := ?_) rfl (by kernel_rfl) (by kernel_rfl) (by kernel_rfl) (fun _ _ _ h => h) (Or.inl ⟨by rfl, ?_⟩) (sK _ HG1.out) ?_
            rotate_left
            · (intro wS hSw; (try dsimp only at hSw); go_simp; try with_reducible rfl)
            simp only [Act.put, List.getElem_toArray, List.getElem_cons_zero, List.getElem_cons_succ, List.setIfInBounds_toArray, List.set_cons_zero, List.set_cons_succ]
            refine wpAnyH_ready (rs := [25]) (by kernel_rfl) (by simp) ?_
            refine AllReadyH.cons rfl (fun K hK => ?_) AllReadyH.nil
            go_simp
            clear m0 m1 m2 n0 n1 n2 md0 md1 md2 nd0 nd1 nd2 fm0 fm1 fm2 fn0 fn1 fn2 gm0 gm1 gm2 gn0 gn1 gn2
            have hO2 := row_set (i := k) (x := s0) (y := s1) (z := s2) (by simp [HN.out]) hk HO1.out
            have hG2 : Blk (((r1.setCell ⟨r, k * 3, none⟩ (.int .i64 s0)).setCell ⟨r, k * 3 + 1, none⟩ (.int .i64 s1)).setCell ⟨r, k * 3 + 2, none⟩ (.int .i64 s2)).drew g 55 #[.slice (some ⟨r, 0, none⟩) n c] := (((HG1.out.far (p := ⟨r, k * 3, none⟩) hne _).far (p := ⟨r, k * 3 + 1, none⟩) hne _).far (p := ⟨r, k * 3 + 2, none⟩) hne _)
            have hF2 : Fr (fun x => x = r) w (((r1.setCell ⟨r, k * 3, none⟩ (.int .i64 s0)).setCell ⟨r, k * 3 + 1, none⟩ (.int .i64 s1)).setCell ⟨r, k * 3 + 2, none⟩ (.int .i64 s2)).drew := (((FF1.out.setCell (Or.inr rfl) _).setCell (Or.inr rfl) _).setCell (Or.inr rfl) _).drew
            have hQ2 : At (((r1.setCell ⟨r, k * 3, none⟩ (.int .i64 s0)).setCell ⟨r, k * 3 + 1, none⟩ (.int .i64 s1)).setCell ⟨r, k * 3 + 2, none⟩ (.int .i64 s2)).drew r (o * 3) #[.int .i64 s0, .int .i64 s1, .int .i64 s2] := at_apart (by have := HPK.out; omega) HS.out
            obtain ⟨r3, hr3⟩ : ∃ V, (((r1.setCell ⟨r, k * 3, none⟩ (.int .i64 s0)).setCell ⟨r, k * 3 + 1, none⟩ (.int .i64 s1)).setCell ⟨r, k * 3 + 2, none⟩ (.int .i64 s2)).drew = V := ⟨_, rfl⟩
            rw [hr3] at hO2 hG2 hF2 hQ2 ⊢
            clear hr3
            have HO2 := Lib.hid hO2; have HG2 := Lib.hid hG2; have FF2 := Lib.hid hF2
            have x0 : r3.cell? ⟨r, o * 3, none⟩ = some (.int .i64 s0) := hQ2 0 _ rfl
            have y0 : r3.frozen? ⟨r, o * 3, none⟩ = false := hO2.frozenAt _
            have x1 : r3.cell? ⟨r, o * 3 + 1, none⟩ = some (.int .i64 s1) := hQ2 1 _ rfl
            have y1 : r3.frozen? ⟨r, o * 3 + 1, none⟩ = false := hO2.frozenAt _
            have x2 : r3.cell? ⟨r, o * 3 + 2, none⟩ = some (.int .i64 s2) := hQ2 2 _ rfl
            have y2 : r3.frozen? ⟨r, o * 3 + 2, none⟩ = false := hO2.frozenAt _
            clear hO2 hG2 hF2 hQ2
            refine hK.out _ _ (sK _ HG2.out) (fun hHeld => ?_)
            clear hK K hHeld
            try simp only [Act.put, List.getElem_toArray, List.getElem_cons_zero, List.getElem_cons_succ, List.setIfInBounds_toArray, List.set_cons_zero, List.set_cons_succ]
            refine wpAnyH_take (i := 26) (v := ?_) rfl (by kernel_rfl) (by kernel_rfl) (by kernel_rfl) (fun _ _ _ h => h) (Or.inl ⟨by rfl, ?_⟩) (sK _ HG2.out) ?_
            rotate_left
            · (intro wS hSw; (try dsimp only at hSw); go_simp; try with_reducible rfl)
            simp only [Act.put, List.getElem_toArray, List.getElem_cons_zero, List.getElem_cons_succ, List.setIfInBounds_toArray, List.set_cons_zero, List.set_cons_succ]
            refine wpAnyH_ready (rs := [27]) (by kernel_rfl) (by simp) ?_
            refine AllReadyH.cons rfl (fun K hK => ?_) AllReadyH.nil
            go_simp
            clear x0 x1 x2 y0 y1 y2
            have hO3 := row_set (i := o) (x := a) (y := d) (z := f) (by simp [HN.out]) hon HO2.out
            have hG3 : Blk (((r3.setCell ⟨r, o * 3, none⟩ (.int .i64 a)).setCell ⟨r, o * 3 + 1, none⟩ (.int .i64 d)).setCell ⟨r, o * 3 + 2, none⟩ (.int .i64 f)) g 55 #[.slice (some ⟨r, 0, none⟩) n c] := (((HG2.out.far (p := ⟨r, o * 3, none⟩) hne _).far (p := ⟨r, o * 3 + 1, none⟩) hne _).far (p := ⟨r, o * 3 + 2, none⟩) hne _)
            have hF3 : Fr (fun x => x = r) w (((r3.setCell ⟨r, o * 3, none⟩ (.int .i64 a)).setCell ⟨r, o * 3 + 1, none⟩ (.int .i64 d)).setCell ⟨r, o * 3 + 2, none⟩ (.int .i64 f)) := ((FF2.out.setCell (Or.inr rfl) _).setCell (Or.inr rfl) _).setCell (Or.inr rfl) _
            replace hO3 : World.ownsRow (((r3.setCell ⟨r, o * 3, none⟩ (.int .i64 a)).setCell ⟨r, o * 3 + 1, none⟩ (.int .i64 d)).setCell ⟨r, o * 3 + 2, none⟩ (.int .i64 f)) B 24 3 (.slice (some ⟨r, 0, none⟩) n c) n _ := hO3
            obtain ⟨r6, hr6⟩ : ∃ V, (((r3.setCell ⟨r, o * 3, none⟩ (.int .i64 a)).setCell ⟨r, o * 3 + 1, none⟩ (.int .i64 d)).setCell ⟨r, o * 3 + 2, none⟩ (.int .i64 f)) = V := ⟨_, rfl⟩
            rw [hr6] at hO3 hG3 hF3 ⊢
            clear hr6
            have HO3 := Lib.hid hO3; have HG3 := Lib.hid hG3; have FF3 := Lib.hid hF3
            clear hO3 hG3 hF3
            refine hK.out _ _ (sK _ HG3.out) (fun hHeld => ?_)
            clear hK K hHeld
            try simp only [Act.put, List.getElem_toArray, List.getElem_cons_zero, List.getElem_cons_succ, List.setIfInBounds_toArray, List.set_cons_zero, List.set_cons_succ]
            refine wpAnyH_done (by kernel_rfl) ?_ _
            have HOW : Hid (r6.ownsRow B 24 3 (.slice (some ⟨r, 0, none⟩) n c) n (rowM 3 (zE (swE M k o)) n)) := Lib.hid (by have := HO3.out; unfold swE; rw [HE1.out, HE3.out]; exact this)
            have HIW := Lib.hid (sink_step (c := o) HI.out (by rw [HN.out]; exact hk) (by have := HK3.out; omega) (by rw [HN.out]; exact hon) (by have := HK3.out; omega) HM.out (by rw [HE1.out, HE3.out, ← ltb_iff]; exact hlt))
            have HPW := Lib.hid ((swE_perm (by rw [HN.out]; exact hk) (by rw [HN.out]; exact hon)).trans HP'.out)
            go_wp2_with fail
            go_roundw
            case rel => exact ⟨o, swE M k o, rfl, Nat.le_of_lt hon, Lib.hid (by rw [swE_len]; exact HN.out), HPW, HIW, HOW, FF3⟩
            case measure => have := HK3.out; simp [intOf]; omega
        · have EE : Hid (Below r0.heap.size r0 r0) := Lib.hid (Below.refl _ _)
          have kH0 : r0.cell? ⟨g, 0, none⟩ = some (.slice (some ⟨r, 0, none⟩) n c) := HH.out.cell 0
          have kP0 : r0.cell? ⟨r, k * 3, none⟩ = some (.int .i64 a) := HP.out 0 _ rfl
          have kP1 : r0.cell? ⟨r, k * 3 + 1, none⟩ = some (.int .i64 d) := HP.out 1 _ rfl
          have kP2 : r0.cell? ⟨r, k * 3 + 2, none⟩ = some (.int .i64 f) := HP.out 2 _ rfl
          have kS0 : r0.cell? ⟨r, o * 3, none⟩ = some (.int .i64 s0) := HS.out 0 _ rfl
          have kS1 : r0.cell? ⟨r, o * 3 + 1, none⟩ = some (.int .i64 s1) := HS.out 1 _ rfl
          have kS2 : r0.cell? ⟨r, o * 3 + 2, none⟩ = some (.int .i64 s2) := HS.out 2 _ rfl
          go_wp2_with fail
          have sK : ∀ X, Blk X (g) 55 #[.slice (some ⟨r, 0, none⟩) n c] → At X r (k * 3) #[.int .i64 a, .int .i64 d, .int .i64 f] → At X r (o * 3) #[.int .i64 s0, .int .i64 s1, .int .i64 s2] → (fun X => X.cell? ⟨g, 0, none⟩ = some (.slice (some ⟨r, 0, none⟩) n c) ∧ X.cell? ⟨r, k * 3, none⟩ = some (.int .i64 a) ∧ X.cell? ⟨r, k * 3 + 1, none⟩ = some (.int .i64 d) ∧ X.cell? ⟨r, k * 3 + 2, none⟩ = some (.int .i64 f) ∧ X.cell? ⟨r, o * 3, none⟩ = some (.int .i64 s0) ∧ X.cell? ⟨r, o * 3 + 1, none⟩ = some (.int .i64 s1) ∧ X.cell? ⟨r, o * 3 + 2, none⟩ = some (.int .i64 s2)) X := fun X hH hP hS => ⟨hH.cell 0, hP 0 _ rfl, hP 1 _ rfl, hP 2 _ rfl, hS 0 _ rfl, hS 1 _ rfl, hS 2 _ rfl⟩
          have LH0 := Lib.hid (HH.out.drew)
          have LP0 := Lib.hid (HP.out.drew)
          have LS0 := Lib.hid (HS.out.drew)
          have E0 := Lib.hid (EE.out.drew)
          clear kH0 kP0 kP1 kP2 kS0 kS1 kS2
          refine wp_region_held_drew (S := (fun X => X.cell? ⟨g, 0, none⟩ = some (.slice (some ⟨r, 0, none⟩) n c) ∧ X.cell? ⟨r, k * 3, none⟩ = some (.int .i64 a) ∧ X.cell? ⟨r, k * 3 + 1, none⟩ = some (.int .i64 d) ∧ X.cell? ⟨r, k * 3 + 2, none⟩ = some (.int .i64 f) ∧ X.cell? ⟨r, o * 3, none⟩ = some (.int .i64 s0) ∧ X.cell? ⟨r, o * 3 + 1, none⟩ = some (.int .i64 s1) ∧ X.cell? ⟨r, o * 3 + 2, none⟩ = some (.int .i64 s2))) (by kernel_rfl) (sK _ LH0.out LP0.out LS0.out) (fun hHeld => ?_)
          clear hHeld
          refine wpAnyH_take (i := 0) (v := ?_) rfl (by kernel_rfl) (by kernel_rfl) (by kernel_rfl) (fun _ _ _ h => h) (Or.inl ⟨by rfl, ?_⟩) (sK _ LH0.out LP0.out LS0.out) ?_
          rotate_left
          · (intro wS hSw; (try dsimp only at hSw); go_simp; try with_reducible rfl)
          simp only [Act.put, List.getElem_toArray, List.getElem_cons_zero, List.getElem_cons_succ, List.setIfInBounds_toArray, List.set_cons_zero, List.set_cons_succ]
          refine wpAnyH_take (i := 1) (v := ?_) rfl (by kernel_rfl) (by kernel_rfl) (by kernel_rfl) (fun _ _ _ h => h) (Or.inl ⟨by rfl, ?_⟩) (sK _ LH0.out LP0.out LS0.out) ?_
          rotate_left
          · (intro wS hSw; (try dsimp only at hSw); go_simp; try with_reducible rfl)
          simp only [Act.put, List.getElem_toArray, List.getElem_cons_zero, List.getElem_cons_succ, List.setIfInBounds_toArray, List.set_cons_zero, List.set_cons_succ]
          refine wpAnyH_take (i := 2) (v := ?_) rfl (by kernel_rfl) (by kernel_rfl) (by kernel_rfl) (fun _ _ _ h => h) (Or.inl ⟨by rfl, ?_⟩) (sK _ LH0.out LP0.out LS0.out) ?_
          rotate_left
          · (intro wS hSw; (try dsimp only at hSw); go_simp; try with_reducible rfl)
          simp only [Act.put, List.getElem_toArray, List.getElem_cons_zero, List.getElem_cons_succ, List.setIfInBounds_toArray, List.set_cons_zero, List.set_cons_succ]
          refine wpAnyH_take (i := 3) (v := ?_) rfl (by kernel_rfl) (by kernel_rfl) (by kernel_rfl) (fun _ _ _ h => h) (Or.inl ⟨by rfl, ?_⟩) (sK _ LH0.out LP0.out LS0.out) ?_
          rotate_left
          · (intro wS hSw; (try dsimp only at hSw); go_simp; try with_reducible rfl)
          simp only [Act.put, List.getElem_toArray, List.getElem_cons_zero, List.getElem_cons_succ, List.setIfInBounds_toArray, List.set_cons_zero, List.set_cons_succ]
          refine wpAnyH_take (i := 4) (v := ?_) rfl (by kernel_rfl) (by kernel_rfl) (by kernel_rfl) (fun _ _ _ h => h) (Or.inl ⟨by rfl, ?_⟩) (sK _ LH0.out LP0.out LS0.out) ?_
          rotate_left
          · (intro wS hSw; (try dsimp only at hSw); go_simp; try with_reducible rfl)
          simp only [Act.put, List.getElem_toArray, List.getElem_cons_zero, List.getElem_cons_succ, List.setIfInBounds_toArray, List.set_cons_zero, List.set_cons_succ]
          refine wpAnyH_take (i := 5) (v := ?_) rfl (by kernel_rfl) (by kernel_rfl) (by kernel_rfl) (fun _ _ _ h => h) (Or.inl ⟨by rfl, ?_⟩) (sK _ LH0.out LP0.out LS0.out) ?_
          rotate_left
          · (intro wS hSw; (try dsimp only at hSw); go_simp; try with_reducible rfl)
          simp only [Act.put, List.getElem_toArray, List.getElem_cons_zero, List.getElem_cons_succ, List.setIfInBounds_toArray, List.set_cons_zero, List.set_cons_succ]
          refine wpAnyH_take (i := 6) (v := ?_) rfl (by kernel_rfl) (by kernel_rfl) (by kernel_rfl) (fun _ _ _ h => h) (Or.inl ⟨by rfl, ?_⟩) (sK _ LH0.out LP0.out LS0.out) ?_
          rotate_left
          · (intro wS hSw; (try dsimp only at hSw); go_simp; try with_reducible rfl)
          simp only [Act.put, List.getElem_toArray, List.getElem_cons_zero, List.getElem_cons_succ, List.setIfInBounds_toArray, List.set_cons_zero, List.set_cons_succ]
          refine wpAnyH_take (i := 7) (v := ?_) rfl (by kernel_rfl) (by kernel_rfl) (by kernel_rfl) (fun _ _ _ h => h) (Or.inl ⟨by rfl, ?_⟩) (sK _ LH0.out LP0.out LS0.out) ?_
          rotate_left
          · (intro wS hSw; (try dsimp only at hSw); go_simp; try with_reducible rfl)
          simp only [Act.put, List.getElem_toArray, List.getElem_cons_zero, List.getElem_cons_succ, List.setIfInBounds_toArray, List.set_cons_zero, List.set_cons_succ]
          refine wpAnyH_take (i := 8) (v := ?_) rfl (by kernel_rfl) (by kernel_rfl) (by kernel_rfl) (fun _ _ _ h => h) (Or.inl ⟨by rfl, ?_⟩) (sK _ LH0.out LP0.out LS0.out) ?_
          rotate_left
          · (intro wS hSw; (try dsimp only at hSw); go_simp; try with_reducible rfl)
          simp only [Act.put, List.getElem_toArray, List.getElem_cons_zero, List.getElem_cons_succ, List.setIfInBounds_toArray, List.set_cons_zero, List.set_cons_succ]
          refine wpAnyH_take (i := 9) (v := ?_) rfl (by kernel_rfl) (by kernel_rfl) (by kernel_rfl) (fun _ _ _ h => h) (Or.inl ⟨by rfl, ?_⟩) (sK _ LH0.out LP0.out LS0.out) ?_
          rotate_left
          · (intro wS hSw; (try dsimp only at hSw); go_simp; try with_reducible rfl)
          simp only [Act.put, List.getElem_toArray, List.getElem_cons_zero, List.getElem_cons_succ, List.setIfInBounds_toArray, List.set_cons_zero, List.set_cons_succ]
          refine wpAnyH_take (i := 10) (v := ?_) rfl (by kernel_rfl) (by kernel_rfl) (by kernel_rfl) (fun _ _ _ h => h) (Or.inl ⟨by rfl, ?_⟩) (sK _ LH0.out LP0.out LS0.out) ?_
          rotate_left
          · (intro wS hSw; (try dsimp only at hSw); go_simp; try with_reducible rfl)
          simp only [Act.put, List.getElem_toArray, List.getElem_cons_zero, List.getElem_cons_succ, List.setIfInBounds_toArray, List.set_cons_zero, List.set_cons_succ]
          refine wpAnyH_take (i := 11) (v := ?_) rfl (by kernel_rfl) (by kernel_rfl) (by kernel_rfl) (fun _ _ _ h => h) (Or.inl ⟨by rfl, ?_⟩) (sK _ LH0.out LP0.out LS0.out) ?_
          rotate_left
          · (intro wS hSw; (try dsimp only at hSw); go_simp; try with_reducible rfl)
          simp only [Act.put, List.getElem_toArray, List.getElem_cons_zero, List.getElem_cons_succ, List.setIfInBounds_toArray, List.set_cons_zero, List.set_cons_succ]
          refine wpAnyH_take (i := 12) (v := ?_) rfl (by kernel_rfl) (by kernel_rfl) (by kernel_rfl) (fun _ _ _ h => h) (Or.inl ⟨by rfl, ?_⟩) (sK _ LH0.out LP0.out LS0.out) ?_
          rotate_left
          · (intro wS hSw; (try dsimp only at hSw); go_simp; try with_reducible rfl)
          simp only [Act.put, List.getElem_toArray, List.getElem_cons_zero, List.getElem_cons_succ, List.setIfInBounds_toArray, List.set_cons_zero, List.set_cons_succ]
          refine wpAnyH_take (i := 13) (v := ?_) rfl (by kernel_rfl) (by kernel_rfl) (by kernel_rfl) (fun _ _ _ h => h) (Or.inl ⟨by rfl, ?_⟩) (sK _ LH0.out LP0.out LS0.out) ?_
          rotate_left
          · (intro wS hSw; (try dsimp only at hSw); go_simp; try with_reducible rfl)
          simp only [Act.put, List.getElem_toArray, List.getElem_cons_zero, List.getElem_cons_succ, List.setIfInBounds_toArray, List.set_cons_zero, List.set_cons_succ]
          refine wpAnyH_ready (rs := [14]) (by kernel_rfl) (by simp) ?_
          refine AllReadyH.cons rfl (fun K hK => ?_) AllReadyH.nil
          go_simp
          refine (less_any (s0, s1, s2) (a, d, f) _).mono ?_
          rintro e r1 ⟨rfl, hb⟩
          have LH1 := Lib.hid (Blk.next (w := r0.drew) LH0.out hb)
          have LP1 := Lib.hid (At.next (w := r0.drew) LP0.out hb)
          have LS1 := Lib.hid (At.next (w := r0.drew) LS0.out hb)
          have E1 := Lib.hid (E0.out.trans (hb.mono E0.out.size))
          rw [hlt]
          clear hb
          go_wp2_with fail
          refine hK.out _ _ (sK _ LH1.out LP1.out LS1.out) (fun hHeld => ?_)
          clear hK K hHeld
          try simp only [Act.put, List.getElem_toArray, List.getElem_cons_zero, List.getElem_cons_succ, List.setIfInBounds_toArray, List.set_cons_zero, List.set_cons_succ]
          refine wpAnyH_take (i := 15) (v := ?_) rfl (by kernel_rfl) (by kernel_rfl) (by kernel_rfl) (fun _ _ _ h => h) (Or.inl ⟨by rfl, ?_⟩) (sK _ LH1.out LP1.out LS1.out) ?_
          rotate_left
          · (intro wS hSw; (try dsimp only at hSw); go_simp; try with_reducible rfl)
          simp only [Act.put, List.getElem_toArray, List.getElem_cons_zero, List.getElem_cons_succ, List.setIfInBounds_toArray, List.set_cons_zero, List.set_cons_succ]
          refine wpAnyH_done (by kernel_rfl) ?_ _
          have HO1 := Lib.hid (ownM_below HO1.out E1.out)
          have FF1 := Lib.hid (FF1.out.below E1.out)
          go_wp2_with fail
          go_end0
          exact ⟨rfl, M, HP'.out, sink_done HI.out (fun i i0 hi hp => ltE_trans (by rw [HE1.out, HE3.out, ← ltb_iff, hlt]; simp) (HM.out i i0 hi hp)), HO1.out, FF1.out⟩
      · have kH0 : wr.cell? ⟨g, 0, none⟩ = some (.slice (some ⟨r, 0, none⟩) n c) := HH.out.cell 0
        have kP0 : wr.cell? ⟨r, k * 3, none⟩ = some (.int .i64 a) := HP.out 0 _ rfl
        have kP1 : wr.cell? ⟨r, k * 3 + 1, none⟩ = some (.int .i64 d) := HP.out 1 _ rfl
        have kP2 : wr.cell? ⟨r, k * 3 + 2, none⟩ = some (.int .i64 f) := HP.out 2 _ rfl
        have kQ0 : wr.cell? ⟨r, q * 3, none⟩ = some (.int .i64 q0) := HQ.out 0 _ rfl
        have kQ1 : wr.cell? ⟨r, q * 3 + 1, none⟩ = some (.int .i64 q1) := HQ.out 1 _ rfl
        have kQ2 : wr.cell? ⟨r, q * 3 + 2, none⟩ = some (.int .i64 q2) := HQ.out 2 _ rfl
        have kS0 : wr.cell? ⟨r, o * 3, none⟩ = some (.int .i64 s0) := HS.out 0 _ rfl
        have kS1 : wr.cell? ⟨r, o * 3 + 1, none⟩ = some (.int .i64 s1) := HS.out 1 _ rfl
        have kS2 : wr.cell? ⟨r, o * 3 + 2, none⟩ = some (.int .i64 s2) := HS.out 2 _ rfl
        obtain ⟨hw1, hw2, hw3, hv1, hv2, hv3⟩ := HWS.out
        go_wp2_with fail
        clear hw1 hw2 hw3 hv1 hv2 hv3
        have sK : ∀ X, Blk X (g) 55 #[.slice (some ⟨r, 0, none⟩) n c] → At X r (k * 3) #[.int .i64 a, .int .i64 d, .int .i64 f] → At X r (q * 3) #[.int .i64 q0, .int .i64 q1, .int .i64 q2] → At X r (o * 3) #[.int .i64 s0, .int .i64 s1, .int .i64 s2] → (fun X => X.cell? ⟨g, 0, none⟩ = some (.slice (some ⟨r, 0, none⟩) n c) ∧ X.cell? ⟨r, k * 3, none⟩ = some (.int .i64 a) ∧ X.cell? ⟨r, k * 3 + 1, none⟩ = some (.int .i64 d) ∧ X.cell? ⟨r, k * 3 + 2, none⟩ = some (.int .i64 f) ∧ X.cell? ⟨r, q * 3, none⟩ = some (.int .i64 q0) ∧ X.cell? ⟨r, q * 3 + 1, none⟩ = some (.int .i64 q1) ∧ X.cell? ⟨r, q * 3 + 2, none⟩ = some (.int .i64 q2) ∧ X.cell? ⟨r, o * 3, none⟩ = some (.int .i64 s0) ∧ X.cell? ⟨r, o * 3 + 1, none⟩ = some (.int .i64 s1) ∧ X.cell? ⟨r, o * 3 + 2, none⟩ = some (.int .i64 s2)) X := fun X hH hP hQ hS => ⟨hH.cell 0, hP 0 _ rfl, hP 1 _ rfl, hP 2 _ rfl, hQ 0 _ rfl, hQ 1 _ rfl, hQ 2 _ rfl, hS 0 _ rfl, hS 1 _ rfl, hS 2 _ rfl⟩
        have LH0 := Lib.hid (HH.out.drew)
        have LP0 := Lib.hid (HP.out.drew)
        have LQ0 := Lib.hid (HQ.out.drew)
        have LS0 := Lib.hid (HS.out.drew)
        have E0 := Lib.hid (EE.out.drew)
        clear kH0 kP0 kP1 kP2 kQ0 kQ1 kQ2 kS0 kS1 kS2
        refine wp_region_held_drew (S := (fun X => X.cell? ⟨g, 0, none⟩ = some (.slice (some ⟨r, 0, none⟩) n c) ∧ X.cell? ⟨r, k * 3, none⟩ = some (.int .i64 a) ∧ X.cell? ⟨r, k * 3 + 1, none⟩ = some (.int .i64 d) ∧ X.cell? ⟨r, k * 3 + 2, none⟩ = some (.int .i64 f) ∧ X.cell? ⟨r, q * 3, none⟩ = some (.int .i64 q0) ∧ X.cell? ⟨r, q * 3 + 1, none⟩ = some (.int .i64 q1) ∧ X.cell? ⟨r, q * 3 + 2, none⟩ = some (.int .i64 q2) ∧ X.cell? ⟨r, o * 3, none⟩ = some (.int .i64 s0) ∧ X.cell? ⟨r, o * 3 + 1, none⟩ = some (.int .i64 s1) ∧ X.cell? ⟨r, o * 3 + 2, none⟩ = some (.int .i64 s2))) (by kernel_rfl) (sK _ LH0.out LP0.out LQ0.out LS0.out) (fun hHeld => ?_)
        clear hHeld
        refine wpAnyH_take (i := 0) (v := ?_) rfl (by kernel_rfl) (by kernel_rfl) (by kernel_rfl) (fun _ _ _ h => h) (Or.inl ⟨by rfl, ?_⟩) (sK _ LH0.out LP0.out LQ0.out LS0.out) ?_
        rotate_left
        · (intro wS hSw; (try dsimp only at hSw); go_simp; try with_reducible rfl)
        simp only [Act.put, List.getElem_toArray, List.getElem_cons_zero, List.getElem_cons_succ, List.setIfInBounds_toArray, List.set_cons_zero, List.set_cons_succ]
        refine wpAnyH_take (i := 1) (v := ?_) rfl (by kernel_rfl) (by kernel_rfl) (by kernel_rfl) (fun _ _ _ h => h) (Or.inl ⟨by rfl, ?_⟩) (sK _ LH0.out LP0.out LQ0.out LS0.out) ?_
        rotate_left
        · (intro wS hSw; (try dsimp only at hSw); go_simp; try with_reducible rfl)
        simp only [Act.put, List.getElem_toArray, List.getElem_cons_zero, List.getElem_cons_succ, List.setIfInBounds_toArray, List.set_cons_zero, List.set_cons_succ]
        refine wpAnyH_take (i := 2) (v := ?_) rfl (by kernel_rfl) (by kernel_rfl) (by kernel_rfl) (fun _ _ _ h => h) (Or.inl ⟨by rfl, ?_⟩) (sK _ LH0.out LP0.out LQ0.out LS0.out) ?_
        rotate_left
        · (intro wS hSw; (try dsimp only at hSw); go_simp; try with_reducible rfl)
        simp only [Act.put, List.getElem_toArray, List.getElem_cons_zero, List.getElem_cons_succ, List.setIfInBounds_toArray, List.set_cons_zero, List.set_cons_succ]
        refine wpAnyH_take (i := 3) (v := ?_) rfl (by kernel_rfl) (by kernel_rfl) (by kernel_rfl) (fun _ _ _ h => h) (Or.inl ⟨by rfl, ?_⟩) (sK _ LH0.out LP0.out LQ0.out LS0.out) ?_
        rotate_left
        · (intro wS hSw; (try dsimp only at hSw); go_simp; try with_reducible rfl)
        simp only [Act.put, List.getElem_toArray, List.getElem_cons_zero, List.getElem_cons_succ, List.setIfInBounds_toArray, List.set_cons_zero, List.set_cons_succ]
        refine wpAnyH_take (i := 4) (v := ?_) rfl (by kernel_rfl) (by kernel_rfl) (by kernel_rfl) (fun _ _ _ h => h) (Or.inl ⟨by rfl, ?_⟩) (sK _ LH0.out LP0.out LQ0.out LS0.out) ?_
        rotate_left
        · (intro wS hSw; (try dsimp only at hSw); go_simp; try with_reducible rfl)
        simp only [Act.put, List.getElem_toArray, List.getElem_cons_zero, List.getElem_cons_succ, List.setIfInBounds_toArray, List.set_cons_zero, List.set_cons_succ]
        refine wpAnyH_take (i := 5) (v := ?_) rfl (by kernel_rfl) (by kernel_rfl) (by kernel_rfl) (fun _ _ _ h => h) (Or.inl ⟨by rfl, ?_⟩) (sK _ LH0.out LP0.out LQ0.out LS0.out) ?_
        rotate_left
        · (intro wS hSw; (try dsimp only at hSw); go_simp; try with_reducible rfl)
        simp only [Act.put, List.getElem_toArray, List.getElem_cons_zero, List.getElem_cons_succ, List.setIfInBounds_toArray, List.set_cons_zero, List.set_cons_succ]
        refine wpAnyH_take (i := 6) (v := ?_) rfl (by kernel_rfl) (by kernel_rfl) (by kernel_rfl) (fun _ _ _ h => h) (Or.inl ⟨by rfl, ?_⟩) (sK _ LH0.out LP0.out LQ0.out LS0.out) ?_
        rotate_left
        · (intro wS hSw; (try dsimp only at hSw); go_simp; try with_reducible rfl)
        simp only [Act.put, List.getElem_toArray, List.getElem_cons_zero, List.getElem_cons_succ, List.setIfInBounds_toArray, List.set_cons_zero, List.set_cons_succ]
        refine wpAnyH_take (i := 7) (v := ?_) rfl (by kernel_rfl) (by kernel_rfl) (by kernel_rfl) (fun _ _ _ h => h) (Or.inl ⟨by rfl, ?_⟩) (sK _ LH0.out LP0.out LQ0.out LS0.out) ?_
        rotate_left
        · (intro wS hSw; (try dsimp only at hSw); go_simp; try with_reducible rfl)
        simp only [Act.put, List.getElem_toArray, List.getElem_cons_zero, List.getElem_cons_succ, List.setIfInBounds_toArray, List.set_cons_zero, List.set_cons_succ]
        refine wpAnyH_take (i := 8) (v := ?_) rfl (by kernel_rfl) (by kernel_rfl) (by kernel_rfl) (fun _ _ _ h => h) (Or.inl ⟨by rfl, ?_⟩) (sK _ LH0.out LP0.out LQ0.out LS0.out) ?_
        rotate_left
        · (intro wS hSw; (try dsimp only at hSw); go_simp; try with_reducible rfl)
        simp only [Act.put, List.getElem_toArray, List.getElem_cons_zero, List.getElem_cons_succ, List.setIfInBounds_toArray, List.set_cons_zero, List.set_cons_succ]
        refine wpAnyH_take (i := 9) (v := ?_) rfl (by kernel_rfl) (by kernel_rfl) (by kernel_rfl) (fun _ _ _ h => h) (Or.inl ⟨by rfl, ?_⟩) (sK _ LH0.out LP0.out LQ0.out LS0.out) ?_
        rotate_left
        · (intro wS hSw; (try dsimp only at hSw); go_simp; try with_reducible rfl)
        simp only [Act.put, List.getElem_toArray, List.getElem_cons_zero, List.getElem_cons_succ, List.setIfInBounds_toArray, List.set_cons_zero, List.set_cons_succ]
        refine wpAnyH_take (i := 10) (v := ?_) rfl (by kernel_rfl) (by kernel_rfl) (by kernel_rfl) (fun _ _ _ h => h) (Or.inl ⟨by rfl, ?_⟩) (sK _ LH0.out LP0.out LQ0.out LS0.out) ?_
        rotate_left
        · (intro wS hSw; (try dsimp only at hSw); go_simp; try with_reducible rfl)
        simp only [Act.put, List.getElem_toArray, List.getElem_cons_zero, List.getElem_cons_succ, List.setIfInBounds_toArray, List.set_cons_zero, List.set_cons_succ]
        refine wpAnyH_take (i := 11) (v := ?_) rfl (by kernel_rfl) (by kernel_rfl) (by kernel_rfl) (fun _ _ _ h => h) (Or.inl ⟨by rfl, ?_⟩) (sK _ LH0.out LP0.out LQ0.out LS0.out) ?_
        rotate_left
        · (intro wS hSw; (try dsimp only at hSw); go_simp; try with_reducible rfl)
        simp only [Act.put, List.getElem_toArray, List.getElem_cons_zero, List.getElem_cons_succ, List.setIfInBounds_toArray, List.set_cons_zero, List.set_cons_succ]
        refine wpAnyH_take (i := 12) (v := ?_) rfl (by kernel_rfl) (by kernel_rfl) (by kernel_rfl) (fun _ _ _ h => h) (Or.inl ⟨by rfl, ?_⟩) (sK _ LH0.out LP0.out LQ0.out LS0.out) ?_
        rotate_left
        · (intro wS hSw; (try dsimp only at hSw); go_simp; try with_reducible rfl)
        simp only [Act.put, List.getElem_toArray, List.getElem_cons_zero, List.getElem_cons_succ, List.setIfInBounds_toArray, List.set_cons_zero, List.set_cons_succ]
        refine wpAnyH_take (i := 13) (v := ?_) rfl (by kernel_rfl) (by kernel_rfl) (by kernel_rfl) (fun _ _ _ h => h) (Or.inl ⟨by rfl, ?_⟩) (sK _ LH0.out LP0.out LQ0.out LS0.out) ?_
        rotate_left
        · (intro wS hSw; (try dsimp only at hSw); go_simp; try with_reducible rfl)
        simp only [Act.put, List.getElem_toArray, List.getElem_cons_zero, List.getElem_cons_succ, List.setIfInBounds_toArray, List.set_cons_zero, List.set_cons_succ]
        refine wpAnyH_take (i := 14) (v := ?_) rfl (by kernel_rfl) (by kernel_rfl) (by kernel_rfl) (fun _ _ _ h => h) (Or.inl ⟨by rfl, ?_⟩) (sK _ LH0.out LP0.out LQ0.out LS0.out) ?_
        rotate_left
        · (intro wS hSw; (try dsimp only at hSw); go_simp; try with_reducible rfl)
        simp only [Act.put, List.getElem_toArray, List.getElem_cons_zero, List.getElem_cons_succ, List.setIfInBounds_toArray, List.set_cons_zero, List.set_cons_succ]
        refine wpAnyH_take (i := 15) (v := ?_) rfl (by kernel_rfl) (by kernel_rfl) (by kernel_rfl) (fun _ _ _ h => h) (Or.inl ⟨by rfl, ?_⟩) (sK _ LH0.out LP0.out LQ0.out LS0.out) ?_
        rotate_left
        · (intro wS hSw; (try dsimp only at hSw); go_simp; try with_reducible rfl)
        simp only [Act.put, List.getElem_toArray, List.getElem_cons_zero, List.getElem_cons_succ, List.setIfInBounds_toArray, List.set_cons_zero, List.set_cons_succ]
        refine wpAnyH_take (i := 16) (v := ?_) rfl (by kernel_rfl) (by kernel_rfl) (by kernel_rfl) (fun _ _ _ h => h) (Or.inl ⟨by rfl, ?_⟩) (sK _ LH0.out LP0.out LQ0.out LS0.out) ?_
        rotate_left
        · (intro wS hSw; (try dsimp only at hSw); go_simp; try with_reducible rfl)
        simp only [Act.put, List.getElem_toArray, List.getElem_cons_zero, List.getElem_cons_succ, List.setIfInBounds_toArray, List.set_cons_zero, List.set_cons_succ]
        refine wpAnyH_take (i := 17) (v := ?_) rfl (by kernel_rfl) (by kernel_rfl) (by kernel_rfl) (fun _ _ _ h => h) (Or.inl ⟨by rfl, ?_⟩) (sK _ LH0.out LP0.out LQ0.out LS0.out) ?_
        rotate_left
        · (intro wS hSw; (try dsimp only at hSw); go_simp; try with_reducible rfl)
        simp only [Act.put, List.getElem_toArray, List.getElem_cons_zero, List.getElem_cons_succ, List.setIfInBounds_toArray, List.set_cons_zero, List.set_cons_succ]
        refine wpAnyH_take (i := 18) (v := ?_) rfl (by kernel_rfl) (by kernel_rfl) (by kernel_rfl) (fun _ _ _ h => h) (Or.inl ⟨by rfl, ?_⟩) (sK _ LH0.out LP0.out LQ0.out LS0.out) ?_
        rotate_left
        · (intro wS hSw; (try dsimp only at hSw); go_simp; try with_reducible rfl)
        simp only [Act.put, List.getElem_toArray, List.getElem_cons_zero, List.getElem_cons_succ, List.setIfInBounds_toArray, List.set_cons_zero, List.set_cons_succ]
        refine wpAnyH_take (i := 19) (v := ?_) rfl (by kernel_rfl) (by kernel_rfl) (by kernel_rfl) (fun _ _ _ h => h) (Or.inl ⟨by rfl, ?_⟩) (sK _ LH0.out LP0.out LQ0.out LS0.out) ?_
        rotate_left
        · (intro wS hSw; (try dsimp only at hSw); go_simp; try with_reducible rfl)
        simp only [Act.put, List.getElem_toArray, List.getElem_cons_zero, List.getElem_cons_succ, List.setIfInBounds_toArray, List.set_cons_zero, List.set_cons_succ]
        refine wpAnyH_take (i := 20) (v := ?_) rfl (by kernel_rfl) (by kernel_rfl) (by kernel_rfl) (fun _ _ _ h => h) (Or.inl ⟨by rfl, ?_⟩) (sK _ LH0.out LP0.out LQ0.out LS0.out) ?_
        rotate_left
        · (intro wS hSw; (try dsimp only at hSw); go_simp; try with_reducible rfl)
        simp only [Act.put, List.getElem_toArray, List.getElem_cons_zero, List.getElem_cons_succ, List.setIfInBounds_toArray, List.set_cons_zero, List.set_cons_succ]
        refine wpAnyH_take (i := 21) (v := ?_) rfl (by kernel_rfl) (by kernel_rfl) (by kernel_rfl) (fun _ _ _ h => h) (Or.inl ⟨by rfl, ?_⟩) (sK _ LH0.out LP0.out LQ0.out LS0.out) ?_
        rotate_left
        · (intro wS hSw; (try dsimp only at hSw); go_simp; try with_reducible rfl)
        simp only [Act.put, List.getElem_toArray, List.getElem_cons_zero, List.getElem_cons_succ, List.setIfInBounds_toArray, List.set_cons_zero, List.set_cons_succ]
        refine wpAnyH_ready (rs := [22]) (by kernel_rfl) (by simp) ?_
        refine AllReadyH.cons rfl (fun K hK => ?_) AllReadyH.nil
        go_simp
        refine (less_any (s0, s1, s2) (q0, q1, q2) _).mono ?_
        rintro e r1 ⟨rfl, hb⟩
        have LH1 := Lib.hid (Blk.next (w := wr.drew) LH0.out hb)
        have LP1 := Lib.hid (At.next (w := wr.drew) LP0.out hb)
        have LQ1 := Lib.hid (At.next (w := wr.drew) LQ0.out hb)
        have LS1 := Lib.hid (At.next (w := wr.drew) LS0.out hb)
        have E1 := Lib.hid (E0.out.trans (hb.mono E0.out.size))
        rw [hlo]
        clear hb
        go_wp2_with fail
        refine hK.out _ _ (sK _ LH1.out LP1.out LQ1.out LS1.out) (fun hHeld => ?_)
        clear hK K hHeld
        try simp only [Act.put, List.getElem_toArray, List.getElem_cons_zero, List.getElem_cons_succ, List.setIfInBounds_toArray, List.set_cons_zero, List.set_cons_succ]
        refine wpAnyH_take (i := 23) (v := ?_) rfl (by kernel_rfl) (by kernel_rfl) (by kernel_rfl) (fun _ _ _ h => h) (Or.inl ⟨by rfl, ?_⟩) (sK _ LH1.out LP1.out LQ1.out LS1.out) ?_
        rotate_left
        · (intro wS hSw; (try dsimp only at hSw); go_simp; try with_reducible rfl)
        simp only [Act.put, List.getElem_toArray, List.getElem_cons_zero, List.getElem_cons_succ, List.setIfInBounds_toArray, List.set_cons_zero, List.set_cons_succ]
        refine wpAnyH_done (by kernel_rfl) ?_ _
        have HO1 := Lib.hid (ownM_below HO.out E1.out)
        have FF1 := Lib.hid (FF.out.below E1.out)
        have HH := LH1
        have HP := LP1
        have HQ := LQ1
        have HS := LS1
        have EE := E1
        have kH0 : r1.cell? ⟨g, 0, none⟩ = some (.slice (some ⟨r, 0, none⟩) n c) := HH.out.cell 0
        have kP0 : r1.cell? ⟨r, k * 3, none⟩ = some (.int .i64 a) := HP.out 0 _ rfl
        have kP1 : r1.cell? ⟨r, k * 3 + 1, none⟩ = some (.int .i64 d) := HP.out 1 _ rfl
        have kP2 : r1.cell? ⟨r, k * 3 + 2, none⟩ = some (.int .i64 f) := HP.out 2 _ rfl
        have kQ0 : r1.cell? ⟨r, q * 3, none⟩ = some (.int .i64 q0) := HQ.out 0 _ rfl
        have kQ1 : r1.cell? ⟨r, q * 3 + 1, none⟩ = some (.int .i64 q1) := HQ.out 1 _ rfl
        have kQ2 : r1.cell? ⟨r, q * 3 + 2, none⟩ = some (.int .i64 q2) := HQ.out 2 _ rfl
        have kS0 : r1.cell? ⟨r, o * 3, none⟩ = some (.int .i64 s0) := HS.out 0 _ rfl
        have kS1 : r1.cell? ⟨r, o * 3 + 1, none⟩ = some (.int .i64 s1) := HS.out 1 _ rfl
        have kS2 : r1.cell? ⟨r, o * 3 + 2, none⟩ = some (.int .i64 s2) := HS.out 2 _ rfl
        clear kH0 kP0 kP1 kP2 kQ0 kQ1 kQ2 kS0 kS1 kS2
        clear EE
        have HM : Hid (∀ i, 0 < i → i < M.length → (i - 1) / 2 = k → ¬ ltE (eE M i) (eE M q)) := Lib.hid (fun i i0 hi hp => by
          by_cases e : i = q
          · rw [e]; exact ltE_irr _
          · rw [show i = o by have := HK3.out; omega, HE2.out, HE3.out, ← ltb_iff, hlo]; simp)
        go_wp2_with fail
        obtain ⟨r0, rfl⟩ : ∃ V, V = r1 := ⟨_, rfl⟩
        rcases Bool.eq_false_or_eq_true (ltb (q0, q1, q2) (a, d, f)) with hlt | hlt
        · have EE : Hid (Below r0.heap.size r0 r0) := Lib.hid (Below.refl _ _)
          have kH0 : r0.cell? ⟨g, 0, none⟩ = some (.slice (some ⟨r, 0, none⟩) n c) := HH.out.cell 0
          have kP0 : r0.cell? ⟨r, k * 3, none⟩ = some (.int .i64 a) := HP.out 0 _ rfl
          have kP1 : r0.cell? ⟨r, k * 3 + 1, none⟩ = some (.int .i64 d) := HP.out 1 _ rfl
          have kP2 : r0.cell? ⟨r, k * 3 + 2, none⟩ = some (.int .i64 f) := HP.out 2 _ rfl
          have kQ0 : r0.cell? ⟨r, q * 3, none⟩ = some (.int .i64 q0) := HQ.out 0 _ rfl
          have kQ1 : r0.cell? ⟨r, q * 3 + 1, none⟩ = some (.int .i64 q1) := HQ.out 1 _ rfl
          have kQ2 : r0.cell? ⟨r, q * 3 + 2, none⟩ = some (.int .i64 q2) := HQ.out 2 _ rfl
          go_wp2_with fail
          have sK : ∀ X, Blk X (g) 55 #[.slice (some ⟨r, 0, none⟩) n c] → At X r (k * 3) #[.int .i64 a, .int .i64 d, .int .i64 f] → At X r (q * 3) #[.int .i64 q0, .int .i64 q1, .int .i64 q2] → (fun X => X.cell? ⟨g, 0, none⟩ = some (.slice (some ⟨r, 0, none⟩) n c) ∧ X.cell? ⟨r, k * 3, none⟩ = some (.int .i64 a) ∧ X.cell? ⟨r, k * 3 + 1, none⟩ = some (.int .i64 d) ∧ X.cell? ⟨r, k * 3 + 2, none⟩ = some (.int .i64 f) ∧ X.cell? ⟨r, q * 3, none⟩ = some (.int .i64 q0) ∧ X.cell? ⟨r, q * 3 + 1, none⟩ = some (.int .i64 q1) ∧ X.cell? ⟨r, q * 3 + 2, none⟩ = some (.int .i64 q2)) X := fun X hH hP hQ => ⟨hH.cell 0, hP 0 _ rfl, hP 1 _ rfl, hP 2 _ rfl, hQ 0 _ rfl, hQ 1 _ rfl, hQ 2 _ rfl⟩
          have LH0 := Lib.hid (HH.out.drew)
          have LP0 := Lib.hid (HP.out.drew)
          have LQ0 := Lib.hid (HQ.out.drew)
          have E0 := Lib.hid (EE.out.drew)
          clear kH0 kP0 kP1 kP2 kQ0 kQ1 kQ2
          refine wp_region_held_drew (S := (fun X => X.cell? ⟨g, 0, none⟩ = some (.slice (some ⟨r, 0, none⟩) n c) ∧ X.cell? ⟨r, k * 3, none⟩ = some (.int .i64 a) ∧ X.cell? ⟨r, k * 3 + 1, none⟩ = some (.int .i64 d) ∧ X.cell? ⟨r, k * 3 + 2, none⟩ = some (.int .i64 f) ∧ X.cell? ⟨r, q * 3, none⟩ = some (.int .i64 q0) ∧ X.cell? ⟨r, q * 3 + 1, none⟩ = some (.int .i64 q1) ∧ X.cell? ⟨r, q * 3 + 2, none⟩ = some (.int .i64 q2))) (by kernel_rfl) (sK _ LH0.out LP0.out LQ0.out) (fun hHeld => ?_)
          clear hHeld
          refine wpAnyH_take (i := 0) (v := ?_) rfl (by kernel_rfl) (by kernel_rfl) (by kernel_rfl) (fun _ _ _ h => h) (Or.inl ⟨by rfl, ?_⟩) (sK _ LH0.out LP0.out LQ0.out) ?_
          rotate_left
          · (intro wS hSw; (try dsimp only at hSw); go_simp; try with_reducible rfl)
          simp only [Act.put, List.getElem_toArray, List.getElem_cons_zero, List.getElem_cons_succ, List.setIfInBounds_toArray, List.set_cons_zero, List.set_cons_succ]
          refine wpAnyH_take (i := 1) (v := ?_) rfl (by kernel_rfl) (by kernel_rfl) (by kernel_rfl) (fun _ _ _ h => h) (Or.inl ⟨by rfl, ?_⟩) (sK _ LH0.out LP0.out LQ0.out) ?_
          rotate_left
          · (intro wS hSw; (try dsimp only at hSw); go_simp; try with_reducible rfl)
          simp only [Act.put, List.getElem_toArray, List.getElem_cons_zero, List.getElem_cons_succ, List.setIfInBounds_toArray, List.set_cons_zero, List.set_cons_succ]
          refine wpAnyH_take (i := 2) (v := ?_) rfl (by kernel_rfl) (by kernel_rfl) (by kernel_rfl) (fun _ _ _ h => h) (Or.inl ⟨by rfl, ?_⟩) (sK _ LH0.out LP0.out LQ0.out) ?_
          rotate_left
          · (intro wS hSw; (try dsimp only at hSw); go_simp; try with_reducible rfl)
          simp only [Act.put, List.getElem_toArray, List.getElem_cons_zero, List.getElem_cons_succ, List.setIfInBounds_toArray, List.set_cons_zero, List.set_cons_succ]
          refine wpAnyH_take (i := 3) (v := ?_) rfl (by kernel_rfl) (by kernel_rfl) (by kernel_rfl) (fun _ _ _ h => h) (Or.inl ⟨by rfl, ?_⟩) (sK _ LH0.out LP0.out LQ0.out) ?_
          rotate_left
          · (intro wS hSw; (try dsimp only at hSw); go_simp; try with_reducible rfl)
          simp only [Act.put, List.getElem_toArray, List.getElem_cons_zero, List.getElem_cons_succ, List.setIfInBounds_toArray, List.set_cons_zero, List.set_cons_succ]
          refine wpAnyH_take (i := 4) (v := ?_) rfl (by kernel_rfl) (by kernel_rfl) (by kernel_rfl) (fun _ _ _ h => h) (Or.inl ⟨by rfl, ?_⟩) (sK _ LH0.out LP0.out LQ0.out) ?_
          rotate_left
          · (intro wS hSw; (try dsimp only at hSw); go_simp; try with_reducible rfl)
          simp only [Act.put, List.getElem_toArray, List.getElem_cons_zero, List.getElem_cons_succ, List.setIfInBounds_toArray, List.set_cons_zero, List.set_cons_succ]
          refine wpAnyH_take (i := 5) (v := ?_) rfl (by kernel_rfl) (by kernel_rfl) (by kernel_rfl) (fun _ _ _ h => h) (Or.inl ⟨by rfl, ?_⟩) (sK _ LH0.out LP0.out LQ0.out) ?_
          rotate_left
          · (intro wS hSw; (try dsimp only at hSw); go_simp; try with_reducible rfl)
          simp only [Act.put, List.getElem_toArray, List.getElem_cons_zero, List.getElem_cons_succ, List.setIfInBounds_toArray, List.set_cons_zero, List.set_cons_succ]
          refine wpAnyH_take (i := 6) (v := ?_) rfl (by kernel_rfl) (by kernel_rfl) (by kernel_rfl) (fun _ _ _ h => h) (Or.inl ⟨by rfl, ?_⟩) (sK _ LH0.out LP0.out LQ0.out) ?_
          rotate_left
          · (intro wS hSw; (try dsimp only at hSw); go_simp; try with_reducible rfl)
          simp only [Act.put, List.getElem_toArray, List.getElem_cons_zero, List.getElem_cons_succ, List.setIfInBounds_toArray, List.set_cons_zero, List.set_cons_succ]
          refine wpAnyH_take (i := 7) (v := ?_) rfl (by kernel_rfl) (by kernel_rfl) (by kernel_rfl) (fun _ _ _ h => h) (Or.inl ⟨by rfl, ?_⟩) (sK _ LH0.out LP0.out LQ0.out) ?_
          rotate_left
          · (intro wS hSw; (try dsimp only at hSw); go_simp; try with_reducible rfl)
          simp only [Act.put, List.getElem_toArray, List.getElem_cons_zero, List.getElem_cons_succ, List.setIfInBounds_toArray, List.set_cons_zero, List.set_cons_succ]
          refine wpAnyH_take (i := 8) (v := ?_) rfl (by kernel_rfl) (by kernel_rfl) (by kernel_rfl) (fun _ _ _ h => h) (Or.inl ⟨by rfl, ?_⟩) (sK _ LH0.out LP0.out LQ0.out) ?_
          rotate_left
          · (intro wS hSw; (try dsimp only at hSw); go_simp; try with_reducible rfl)
          simp only [Act.put, List.getElem_toArray, List.getElem_cons_zero, List.getElem_cons_succ, List.setIfInBounds_toArray, List.set_cons_zero, List.set_cons_succ]
          refine wpAnyH_take (i := 9) (v := ?_) rfl (by kernel_rfl) (by kernel_rfl) (by kernel_rfl) (fun _ _ _ h => h) (Or.inl ⟨by rfl, ?_⟩) (sK _ LH0.out LP0.out LQ0.out) ?_
          rotate_left
          · (intro wS hSw; (try dsimp only at hSw); go_simp; try with_reducible rfl)
          simp only [Act.put, List.getElem_toArray, List.getElem_cons_zero, List.getElem_cons_succ, List.setIfInBounds_toArray, List.set_cons_zero, List.set_cons_succ]
          refine wpAnyH_take (i := 10) (v := ?_) rfl (by kernel_rfl) (by kernel_rfl) (by kernel_rfl) (fun _ _ _ h => h) (Or.inl ⟨by rfl, ?_⟩) (sK _ LH0.out LP0.out LQ0.out) ?_
          rotate_left
          · (intro wS hSw; (try dsimp only at hSw); go_simp; try with_reducible rfl)
          simp only [Act.put, List.getElem_toArray, List.getElem_cons_zero, List.getElem_cons_succ, List.setIfInBounds_toArray, List.set_cons_zero, List.set_cons_succ]
          refine wpAnyH_take (i := 11) (v := ?_) rfl (by kernel_rfl) (by kernel_rfl) (by kernel_rfl) (fun _ _ _ h => h) (Or.inl ⟨by rfl, ?_⟩) (sK _ LH0.out LP0.out LQ0.out) ?_
          rotate_left
          · (intro wS hSw; (try dsimp only at hSw); go_simp; try with_reducible rfl)
          simp only [Act.put, List.getElem_toArray, List.getElem_cons_zero, List.getElem_cons_succ, List.setIfInBounds_toArray, List.set_cons_zero, List.set_cons_succ]
          refine wpAnyH_take (i := 12) (v := ?_) rfl (by kernel_rfl) (by kernel_rfl) (by kernel_rfl) (fun _ _ _ h => h) (Or.inl ⟨by rfl, ?_⟩) (sK _ LH0.out LP0.out LQ0.out) ?_
          rotate_left
          · (intro wS hSw; (try dsimp only at hSw); go_simp; try with_reducible rfl)
          simp only [Act.put, List.getElem_toArray, List.getElem_cons_zero, List.getElem_cons_succ, List.setIfInBounds_toArray, List.set_cons_zero, List.set_cons_succ]
          refine wpAnyH_take (i := 13) (v := ?_) rfl (by kernel_rfl) (by kernel_rfl) (by kernel_rfl) (fun _ _ _ h => h) (Or.inl ⟨by rfl, ?_⟩) (sK _ LH0.out LP0.out LQ0.out) ?_
          rotate_left
          · (intro wS hSw; (try dsimp only at hSw); go_simp; try with_reducible rfl)
          simp only [Act.put, List.getElem_toArray, List.getElem_cons_zero, List.getElem_cons_succ, List.setIfInBounds_toArray, List.set_cons_zero, List.set_cons_succ]
          refine wpAnyH_ready (rs := [14]) (by kernel_rfl) (by simp) ?_
          refine AllReadyH.cons rfl (fun K hK => ?_) AllReadyH.nil
          go_simp
          refine (less_any (q0, q1, q2) (a, d, f) _).mono ?_
          rintro e r1 ⟨rfl, hb⟩
          have LH1 := Lib.hid (Blk.next (w := r0.drew) LH0.out hb)
          have LP1 := Lib.hid (At.next (w := r0.drew) LP0.out hb)
          have LQ1 := Lib.hid (At.next (w := r0.drew) LQ0.out hb)
          have E1 := Lib.hid (E0.out.trans (hb.mono E0.out.size))
          rw [hlt]
          clear hb
          go_wp2_with fail
          refine hK.out _ _ (sK _ LH1.out LP1.out LQ1.out) (fun hHeld => ?_)
          clear hK K hHeld
          try simp only [Act.put, List.getElem_toArray, List.getElem_cons_zero, List.getElem_cons_succ, List.setIfInBounds_toArray, List.set_cons_zero, List.set_cons_succ]
          refine wpAnyH_take (i := 15) (v := ?_) rfl (by kernel_rfl) (by kernel_rfl) (by kernel_rfl) (fun _ _ _ h => h) (Or.inl ⟨by rfl, ?_⟩) (sK _ LH1.out LP1.out LQ1.out) ?_
          rotate_left
          · (intro wS hSw; (try dsimp only at hSw); go_simp; try with_reducible rfl)
          simp only [Act.put, List.getElem_toArray, List.getElem_cons_zero, List.getElem_cons_succ, List.setIfInBounds_toArray, List.set_cons_zero, List.set_cons_succ]
          refine wpAnyH_done (by kernel_rfl) ?_ _
          have HO1 := Lib.hid (ownM_below HO1.out E1.out)
          have FF1 := Lib.hid (FF1.out.below E1.out)
          have HH := LH1
          have HP := LP1
          have HQ := LQ1
          have EE := E1
          have kH0 : r1.cell? ⟨g, 0, none⟩ = some (.slice (some ⟨r, 0, none⟩) n c) := HH.out.cell 0
          have kP0 : r1.cell? ⟨r, k * 3, none⟩ = some (.int .i64 a) := HP.out 0 _ rfl
          have kP1 : r1.cell? ⟨r, k * 3 + 1, none⟩ = some (.int .i64 d) := HP.out 1 _ rfl
          have kP2 : r1.cell? ⟨r, k * 3 + 2, none⟩ = some (.int .i64 f) := HP.out 2 _ rfl
          have kQ0 : r1.cell? ⟨r, q * 3, none⟩ = some (.int .i64 q0) := HQ.out 0 _ rfl
          have kQ1 : r1.cell? ⟨r, q * 3 + 1, none⟩ = some (.int .i64 q1) := HQ.out 1 _ rfl
          have kQ2 : r1.cell? ⟨r, q * 3 + 2, none⟩ = some (.int .i64 q2) := HQ.out 2 _ rfl
          have HG1 := HH
          clear kH0 kP0 kP1 kP2 kQ0 kQ1 kQ2
          clear EE
          go_wp2_with fail
          have hk := hkn
          have HPK := HQK
          have sK : ∀ X, Blk X g 55 #[.slice (some ⟨r, 0, none⟩) n c] → (fun X : World => X.cell? ⟨g, 0, none⟩ = some (.slice (some ⟨r, 0, none⟩) n c)) X := fun X hX => hX.cell 0
          have m0 : r1.cell? ⟨r, k * 3, none⟩ = some (.int .i64 a) := HP.out 0 _ rfl
          have md0 : r1.drew.cell? ⟨r, k * 3, none⟩ = some (.int .i64 a) := m0
          have fm0 : r1.frozen? ⟨r, k * 3, none⟩ = false := HO1.out.frozenAt _
          have gm0 : r1.drew.frozen? ⟨r, k * 3, none⟩ = false := fm0
          have m1 : r1.cell? ⟨r, k * 3 + 1, none⟩ = some (.int .i64 d) := HP.out 1 _ rfl
          have md1 : r1.drew.cell? ⟨r, k * 3 + 1, none⟩ = some (.int .i64 d) := m1
          have fm1 : r1.frozen? ⟨r, k * 3 + 1, none⟩ = false := HO1.out.frozenAt _
          have gm1 : r1.drew.frozen? ⟨r, k * 3 + 1, none⟩ = false := fm1
          have m2 : r1.cell? ⟨r, k * 3 + 2, none⟩ = some (.int .i64 f) := HP.out 2 _ rfl
          have md2 : r1.drew.cell? ⟨r, k * 3 + 2, none⟩ = some (.int .i64 f) := m2
          have fm2 : r1.frozen? ⟨r, k * 3 + 2, none⟩ = false := HO1.out.frozenAt _
          have gm2 : r1.drew.frozen? ⟨r, k * 3 + 2, none⟩ = false := fm2
          have n0 : r1.cell? ⟨r, q * 3, none⟩ = some (.int .i64 q0) := HQ.out 0 _ rfl
          have nd0 : r1.drew.cell? ⟨r, q * 3, none⟩ = some (.int .i64 q0) := n0
          have fn0 : r1.frozen? ⟨r, q * 3, none⟩ = false := HO1.out.frozenAt _
          have gn0 : r1.drew.frozen? ⟨r, q * 3, none⟩ = false := fn0
          have n1 : r1.cell? ⟨r, q * 3 + 1, none⟩ = some (.int .i64 q1) := HQ.out 1 _ rfl
          have nd1 : r1.drew.cell? ⟨r, q * 3 + 1, none⟩ = some (.int .i64 q1) := n1
          have fn1 : r1.frozen? ⟨r, q * 3 + 1, none⟩ = false := HO1.out.frozenAt _
          have gn1 : r1.drew.frozen? ⟨r, q * 3 + 1, none⟩ = false := fn1
          have n2 : r1.cell? ⟨r, q * 3 + 2, none⟩ = some (.int .i64 q2) := HQ.out 2 _ rfl
          have nd2 : r1.drew.cell? ⟨r, q * 3 + 2, none⟩ = some (.int .i64 q2) := n2
          have fn2 : r1.frozen? ⟨r, q * 3 + 2, none⟩ = false := HO1.out.frozenAt _
          have gn2 : r1.drew.frozen? ⟨r, q * 3 + 2, none⟩ = false := fn2
          refine wp_region_held_drew (S := (fun X : World => X.cell? ⟨g, 0, none⟩ = some (.slice (some ⟨r, 0, none⟩) n c))) (by kernel_rfl) (sK _ HG1.out) (fun hHeld => ?_)
          clear hHeld
          refine wpAnyH_take (i := 0) (v := ?_) rfl (by kernel_rfl) (by kernel_rfl) (by kernel_rfl) (fun _ _ _ h => h) (Or.inl ⟨by rfl, ?_⟩) (sK _ HG1.out) ?_
          rotate_left
          · (intro wS hSw; (try dsimp only at hSw); go_simp; try with_reducible rfl)
          simp only [Act.put, List.getElem_toArray, List.getElem_cons_zero, List.getElem_cons_succ, List.setIfInBounds_toArray, List.set_cons_zero, List.set_cons_succ]
          refine wpAnyH_take (i := 1) (v := ?_) rfl (by kernel_rfl) (by kernel_rfl) (by kernel_rfl) (fun _ _ _ h => h) (Or.inl ⟨by rfl, ?_⟩) (sK _ HG1.out) ?_
          rotate_left
          · (intro wS hSw; (try dsimp only at hSw); go_simp; try with_reducible rfl)
          simp only [Act.put, List.getElem_toArray, List.getElem_cons_zero, List.getElem_cons_succ, List.setIfInBounds_toArray, List.set_cons_zero, List.set_cons_succ]
          refine wpAnyH_take (i := 2) (v := ?_) rfl (by kernel_rfl) (by kernel_rfl) (by kernel_rfl) (fun _ _ _ h => h) (Or.inl ⟨by rfl, ?_⟩) (sK _ HG1.out) ?_
          rotate_left
          · (intro wS hSw; (try dsimp only at hSw); go_simp; try with_reducible rfl)
          simp only [Act.put, List.getElem_toArray, List.getElem_cons_zero, List.getElem_cons_succ, List.setIfInBounds_toArray, List.set_cons_zero, List.set_cons_succ]
          refine wpAnyH_take (i := 3) (v := ?_) rfl (by kernel_rfl) (by kernel_rfl) (by kernel_rfl) (fun _ _ _ h => h) (Or.inl ⟨by rfl, ?_⟩) (sK _ HG1.out) ?_
          rotate_left
          · (intro wS hSw; (try dsimp only at hSw); go_simp; try with_reducible rfl)
          simp only [Act.put, List.getElem_toArray, List.getElem_cons_zero, List.getElem_cons_succ, List.setIfInBounds_toArray, List.set_cons_zero, List.set_cons_succ]
          refine wpAnyH_take (i := 4) (v := ?_) rfl (by kernel_rfl) (by kernel_rfl) (by kernel_rfl) (fun _ _ _ h => h) (Or.inl ⟨by rfl, ?_⟩) (sK _ HG1.out) ?_
          rotate_left
          · (intro wS hSw; (try dsimp only at hSw); go_simp; try with_reducible rfl)
          simp only [Act.put, List.getElem_toArray, List.getElem_cons_zero, List.getElem_cons_succ, List.setIfInBounds_toArray, List.set_cons_zero, List.set_cons_succ]
          refine wpAnyH_take (i := 5) (v := ?_) rfl (by kernel_rfl) (by kernel_rfl) (by kernel_rfl) (fun _ _ _ h => h) (Or.inl ⟨by rfl, ?_⟩) (sK _ HG1.out) ?_
          rotate_left
          · (intro wS hSw; (try dsimp only at hSw); go_simp; try with_reducible rfl)
          simp only [Act.put, List.getElem_toArray, List.getElem_cons_zero, List.getElem_cons_succ, List.setIfInBounds_toArray, List.set_cons_zero, List.set_cons_succ]
          refine wpAnyH_take (i := 6) (v := ?_) rfl (by kernel_rfl) (by kernel_rfl) (by kernel_rfl) (fun _ _ _ h => h) (Or.inl ⟨by rfl, ?_⟩) (sK _ HG1.out) ?_
          rotate_left
          · (intro wS hSw; (try dsimp only at hSw); go_simp; try with_reducible rfl)
          simp only [Act.put, List.getElem_toArray, List.getElem_cons_zero, List.getElem_cons_succ, List.setIfInBounds_toArray, List.set_cons_zero, List.set_cons_succ]
          refine wpAnyH_take (i := 7) (v := ?_) rfl (by kernel_rfl) (by kernel_rfl) (by kernel_rfl) (fun _ _ _ h => h) (Or.inl ⟨by rfl, ?_⟩) (sK _ HG1.out) ?_
          rotate_left
          · (intro wS hSw; (try dsimp only at hSw); go_simp; try with_reducible rfl)
          simp only [Act.put, List.getElem_toArray, List.getElem_cons_zero, List.getElem_cons_succ, List.setIfInBounds_toArray, List.set_cons_zero, List.set_cons_succ]
          refine wpAnyH_take (i := 8) (v := ?_) rfl (by kernel_rfl) (by kernel_rfl) (by kernel_rfl) (fun _ _ _ h => h) (Or.inl ⟨by rfl, ?_⟩) (sK _ HG1.out) ?_
          rotate_left
          · (intro wS hSw; (try dsimp only at hSw); go_simp; try with_reducible rfl)
          simp only [Act.put, List.getElem_toArray, List.getElem_cons_zero, List.getElem_cons_succ, List.setIfInBounds_toArray, List.set_cons_zero, List.set_cons_succ]
          refine wpAnyH_take (i := 9) (v := ?_) rfl (by kernel_rfl) (by kernel_rfl) (by kernel_rfl) (fun _ _ _ h => h) (Or.inl ⟨by rfl, ?_⟩) (sK _ HG1.out) ?_
          rotate_left
          · (intro wS hSw; (try dsimp only at hSw); go_simp; try with_reducible rfl)
          simp only [Act.put, List.getElem_toArray, List.getElem_cons_zero, List.getElem_cons_succ, List.setIfInBounds_toArray, List.set_cons_zero, List.set_cons_succ]
          refine wpAnyH_take (i := 10) (v := ?_) rfl (by kernel_rfl) (by kernel_rfl) (by kernel_rfl) (fun _ _ _ h => h) (Or.inl ⟨by rfl, ?_⟩) (sK _ HG1.out) ?_
          rotate_left
          · (intro wS hSw; (try dsimp only at hSw); go_simp; try with_reducible rfl)
          simp only [Act.put, List.getElem_toArray, List.getElem_cons_zero, List.getElem_cons_succ, List.setIfInBounds_toArray, List.set_cons_zero, List.set_cons_succ]
          refine wpAnyH_take (i := 11) (v := ?_) rfl (by kernel_rfl) (by kernel_rfl) (by kernel_rfl) (fun _ _ _ h => h) (Or.inl ⟨by rfl, ?_⟩) (sK _ HG1.out) ?_
          rotate_left
          · (intro wS hSw; (try dsimp only at hSw); go_simp; try with_reducible rfl)
          simp only [Act.put, List.getElem_toArray, List.getElem_cons_zero, List.getElem_cons_succ, List.setIfInBounds_toArray, List.set_cons_zero, List.set_cons_succ]
          refine wpAnyH_take (i := 12) (v := ?_) rfl (by kernel_rfl) (by kernel_rfl) (by kernel_rfl) (fun _ _ _ h => h) (Or.inl ⟨by rfl, ?_⟩) (sK _ HG1.out) ?_
          rotate_left
          · (intro wS hSw; (try dsimp only at hSw); go_simp; try with_reducible rfl)
          simp only [Act.put, List.getElem_toArray, List.getElem_cons_zero, List.getElem_cons_succ, List.setIfInBounds_toArray, List.set_cons_zero, List.set_cons_succ]
          refine wpAnyH_take (i := 13) (v := ?_) rfl (by kernel_rfl) (by kernel_rfl) (by kernel_rfl) (fun _ _ _ h => h) (Or.inl ⟨by rfl, ?_⟩) (sK _ HG1.out) ?_
          rotate_left
          · (intro wS hSw; (try dsimp only at hSw); go_simp; try with_reducible rfl)
          simp only [Act.put, List.getElem_toArray, List.getElem_cons_zero, List.getElem_cons_succ, List.setIfInBounds_toArray, List.set_cons_zero, List.set_cons_succ]
          refine wpAnyH_take (i := 14) (v := ?_) rfl (by kernel_rfl) (by kernel_rfl) (by kernel_rfl) (fun _ _ _ h => h) (Or.inl ⟨by rfl, ?_⟩) (sK _ HG1.out) ?_
          rotate_left
          · (intro wS hSw; (try dsimp only at hSw); go_simp; try with_reducible rfl)
          simp only [Act.put, List.getElem_toArray, List.getElem_cons_zero, List.getElem_cons_succ, List.setIfInBounds_toArray, List.set_cons_zero, List.set_cons_succ]
          refine wpAnyH_take (i := 15) (v := ?_) rfl (by kernel_rfl) (by kernel_rfl) (by kernel_rfl) (fun _ _ _ h => h) (Or.inl ⟨by rfl, ?_⟩) (sK _ HG1.out) ?_
          rotate_left
          · (intro wS hSw; (try dsimp only at hSw); go_simp; try with_reducible rfl)
          simp only [Act.put, List.getElem_toArray, List.getElem_cons_zero, List.getElem_cons_succ, List.setIfInBounds_toArray, List.set_cons_zero, List.set_cons_succ]
          refine wpAnyH_take (i := 17) (v := ?_) rfl (by kernel_rfl) (by kernel_rfl) (by kernel_rfl) (fun _ _ _ h => h) (Or.inl ⟨by rfl, ?_⟩) (sK _ HG1.out) ?_
          rotate_left
          · (intro wS hSw; (try dsimp only at hSw); go_simp; try with_reducible rfl)
          simp only [Act.put, List.getElem_toArray, List.getElem_cons_zero, List.getElem_cons_succ, List.setIfInBounds_toArray, List.set_cons_zero, List.set_cons_succ]
          refine wpAnyH_take (i := 18) (v := ?_) rfl (by kernel_rfl) (by kernel_rfl) (by kernel_rfl) (fun _ _ _ h => h) (Or.inl ⟨by rfl, ?_⟩) (sK _ HG1.out) ?_
          rotate_left
          · (intro wS hSw; (try dsimp only at hSw); go_simp; try with_reducible rfl)
          simp only [Act.put, List.getElem_toArray, List.getElem_cons_zero, List.getElem_cons_succ, List.setIfInBounds_toArray, List.set_cons_zero, List.set_cons_succ]
          refine wpAnyH_take (i := 19) (v := ?_) rfl (by kernel_rfl) (by kernel_rfl) (by kernel_rfl) (fun _ _ _ h => h) (Or.inl ⟨by rfl, ?_⟩) (sK _ HG1.out) ?_
          rotate_left
          · (intro wS hSw; (try dsimp only at hSw); go_simp; try with_reducible rfl)
          simp only [Act.put, List.getElem_toArray, List.getElem_cons_zero, List.getElem_cons_succ, List.setIfInBounds_toArray, List.set_cons_zero, List.set_cons_succ]
          refine wpAnyH_take (i := 20) (v := ?_) rfl (by kernel_rfl) (by kernel_rfl) (by kernel_rfl) (fun _ _ _ h => h) (Or.inl ⟨by rfl, ?_⟩) (sK _ HG1.out) ?_
          rotate_left
          · (intro wS hSw; (try dsimp only at hSw); go_simp; try with_reducible rfl)
          simp only [Act.put, List.getElem_toArray, List.getElem_cons_zero, List.getElem_cons_succ, List.setIfInBounds_toArray, List.set_cons_zero, List.set_cons_succ]
          refine wpAnyH_take (i := 21) (v := ?_) rfl (by kernel_rfl) (by kernel_rfl) (by kernel_rfl) (fun _ _ _ h => h) (Or.inl ⟨by rfl, ?_⟩) (sK _ HG1.out) ?_
          rotate_left
          · (intro wS hSw; (try dsimp only at hSw); go_simp; try with_reducible rfl)
          simp only [Act.put, List.getElem_toArray, List.getElem_cons_zero, List.getElem_cons_succ, List.setIfInBounds_toArray, List.set_cons_zero, List.set_cons_succ]
          refine wpAnyH_take (i := 22) (v := ?_) rfl (by kernel_rfl) (by kernel_rfl) (by kernel_rfl) (fun _ _ _ h => h) (Or.inl ⟨by rfl, ?_⟩) (sK _ HG1.out) ?_
          rotate_left
          · (intro wS hSw; (try dsimp only at hSw); go_simp; try with_reducible rfl)
          simp only [Act.put, List.getElem_toArray, List.getElem_cons_zero, List.getElem_cons_succ, List.setIfInBounds_toArray, List.set_cons_zero, List.set_cons_succ]
          refine wpAnyH_ready (rs := [16, 23]) (by kernel_rfl) (by simp) ?_
          refine AllReadyH.cons rfl (fun K hK => ?_) (AllReadyH.cons rfl (fun K hK => ?_) AllReadyH.nil)
          · go_simp
            refine hK.out _ _ (sK _ HG1.out) (fun hHeld => ?_)
            clear hK K hHeld
            try simp only [Act.put, List.getElem_toArray, List.getElem_cons_zero, List.getElem_cons_succ, List.setIfInBounds_toArray, List.set_cons_zero, List.set_cons_succ]
            refine wpAnyH_ready (rs := [23]) (by kernel_rfl) (by simp) ?_
            refine AllReadyH.cons rfl (fun K hK => ?_) AllReadyH.nil
            go_simp
            refine hK.out _ _ (sK _ HG1.out) (fun hHeld => ?_)
            clear hK K hHeld
            try simp only [Act.put, List.getElem_toArray, List.getElem_cons_zero, List.getElem_cons_succ, List.setIfInBounds_toArray, List.set_cons_zero, List.set_cons_succ]
            refine wpAnyH_take (i := 24) (v := ?_) rfl (by kernel_rfl) (by kernel_rfl) (by kernel_rfl) (fun _ _ _ h => h) (Or.inl ⟨by rfl, ?_⟩) (sK _ HG1.out) ?_
            rotate_left
            · (intro wS hSw; (try dsimp only at hSw); go_simp; try with_reducible rfl)
            simp only [Act.put, List.getElem_toArray, List.getElem_cons_zero, List.getElem_cons_succ, List.setIfInBounds_toArray, List.set_cons_zero, List.set_cons_succ]
            refine wpAnyH_ready (rs := [25]) (by kernel_rfl) (by simp) ?_
            refine AllReadyH.cons rfl (fun K hK => ?_) AllReadyH.nil
            go_simp
            clear m0 m1 m2 n0 n1 n2 md0 md1 md2 nd0 nd1 nd2 fm0 fm1 fm2 fn0 fn1 fn2 gm0 gm1 gm2 gn0 gn1 gn2
            have hO2 := row_set (i := k) (x := q0) (y := q1) (z := q2) (by simp [HN.out]) hk HO1.out
            have hG2 : Blk (((r1.setCell ⟨r, k * 3, none⟩ (.int .i64 q0)).setCell ⟨r, k * 3 + 1, none⟩ (.int .i64 q1)).setCell ⟨r, k * 3 + 2, none⟩ (.int .i64 q2)).drew g 55 #[.slice (some ⟨r, 0, none⟩) n c] := (((HG1.out.far (p := ⟨r, k * 3, none⟩) hne _).far (p := ⟨r, k * 3 + 1, none⟩) hne _).far (p := ⟨r, k * 3 + 2, none⟩) hne _)
            have hF2 : Fr (fun x => x = r) w (((r1.setCell ⟨r, k * 3, none⟩ (.int .i64 q0)).setCell ⟨r, k * 3 + 1, none⟩ (.int .i64 q1)).setCell ⟨r, k * 3 + 2, none⟩ (.int .i64 q2)).drew := (((FF1.out.setCell (Or.inr rfl) _).setCell (Or.inr rfl) _).setCell (Or.inr rfl) _).drew
            have hQ2 : At (((r1.setCell ⟨r, k * 3, none⟩ (.int .i64 q0)).setCell ⟨r, k * 3 + 1, none⟩ (.int .i64 q1)).setCell ⟨r, k * 3 + 2, none⟩ (.int .i64 q2)).drew r (q * 3) #[.int .i64 q0, .int .i64 q1, .int .i64 q2] := at_apart (by have := HPK.out; omega) HQ.out
            obtain ⟨r3, hr3⟩ : ∃ V, (((r1.setCell ⟨r, k * 3, none⟩ (.int .i64 q0)).setCell ⟨r, k * 3 + 1, none⟩ (.int .i64 q1)).setCell ⟨r, k * 3 + 2, none⟩ (.int .i64 q2)).drew = V := ⟨_, rfl⟩
            rw [hr3] at hO2 hG2 hF2 hQ2 ⊢
            clear hr3
            have HO2 := Lib.hid hO2; have HG2 := Lib.hid hG2; have FF2 := Lib.hid hF2
            have x0 : r3.cell? ⟨r, q * 3, none⟩ = some (.int .i64 q0) := hQ2 0 _ rfl
            have y0 : r3.frozen? ⟨r, q * 3, none⟩ = false := hO2.frozenAt _
            have x1 : r3.cell? ⟨r, q * 3 + 1, none⟩ = some (.int .i64 q1) := hQ2 1 _ rfl
            have y1 : r3.frozen? ⟨r, q * 3 + 1, none⟩ = false := hO2.frozenAt _
            have x2 : r3.cell? ⟨r, q * 3 + 2, none⟩ = some (.int .i64 q2) := hQ2 2 _ rfl
            have y2 : r3.frozen? ⟨r, q * 3 + 2, none⟩ = false := hO2.frozenAt _
            clear hO2 hG2 hF2 hQ2
            refine hK.out _ _ (sK _ HG2.out) (fun hHeld => ?_)
            clear hK K hHeld
            try simp only [Act.put, List.getElem_toArray, List.getElem_cons_zero, List.getElem_cons_succ, List.setIfInBounds_toArray, List.set_cons_zero, List.set_cons_succ]
            refine wpAnyH_take (i := 26) (v := ?_) rfl (by kernel_rfl) (by kernel_rfl) (by kernel_rfl) (fun _ _ _ h => h) (Or.inl ⟨by rfl, ?_⟩) (sK _ HG2.out) ?_
            rotate_left
            · (intro wS hSw; (try dsimp only at hSw); go_simp; try with_reducible rfl)
            simp only [Act.put, List.getElem_toArray, List.getElem_cons_zero, List.getElem_cons_succ, List.setIfInBounds_toArray, List.set_cons_zero, List.set_cons_succ]
            refine wpAnyH_ready (rs := [27]) (by kernel_rfl) (by simp) ?_
            refine AllReadyH.cons rfl (fun K hK => ?_) AllReadyH.nil
            go_simp
            clear x0 x1 x2 y0 y1 y2
            have hO3 := row_set (i := q) (x := a) (y := d) (z := f) (by simp [HN.out]) hqn' HO2.out
            have hG3 : Blk (((r3.setCell ⟨r, q * 3, none⟩ (.int .i64 a)).setCell ⟨r, q * 3 + 1, none⟩ (.int .i64 d)).setCell ⟨r, q * 3 + 2, none⟩ (.int .i64 f)) g 55 #[.slice (some ⟨r, 0, none⟩) n c] := (((HG2.out.far (p := ⟨r, q * 3, none⟩) hne _).far (p := ⟨r, q * 3 + 1, none⟩) hne _).far (p := ⟨r, q * 3 + 2, none⟩) hne _)
            have hF3 : Fr (fun x => x = r) w (((r3.setCell ⟨r, q * 3, none⟩ (.int .i64 a)).setCell ⟨r, q * 3 + 1, none⟩ (.int .i64 d)).setCell ⟨r, q * 3 + 2, none⟩ (.int .i64 f)) := ((FF2.out.setCell (Or.inr rfl) _).setCell (Or.inr rfl) _).setCell (Or.inr rfl) _
            replace hO3 : World.ownsRow (((r3.setCell ⟨r, q * 3, none⟩ (.int .i64 a)).setCell ⟨r, q * 3 + 1, none⟩ (.int .i64 d)).setCell ⟨r, q * 3 + 2, none⟩ (.int .i64 f)) B 24 3 (.slice (some ⟨r, 0, none⟩) n c) n _ := hO3
            obtain ⟨r6, hr6⟩ : ∃ V, (((r3.setCell ⟨r, q * 3, none⟩ (.int .i64 a)).setCell ⟨r, q * 3 + 1, none⟩ (.int .i64 d)).setCell ⟨r, q * 3 + 2, none⟩ (.int .i64 f)) = V := ⟨_, rfl⟩
            rw [hr6] at hO3 hG3 hF3 ⊢
            clear hr6
            have HO3 := Lib.hid hO3; have HG3 := Lib.hid hG3; have FF3 := Lib.hid hF3
            clear hO3 hG3 hF3
            refine hK.out _ _ (sK _ HG3.out) (fun hHeld => ?_)
            clear hK K hHeld
            try simp only [Act.put, List.getElem_toArray, List.getElem_cons_zero, List.getElem_cons_succ, List.setIfInBounds_toArray, List.set_cons_zero, List.set_cons_succ]
            refine wpAnyH_done (by kernel_rfl) ?_ _
            have HOW : Hid (r6.ownsRow B 24 3 (.slice (some ⟨r, 0, none⟩) n c) n (rowM 3 (zE (swE M k q)) n)) := Lib.hid (by have := HO3.out; unfold swE; rw [HE1.out, HE2.out]; exact this)
            have HIW := Lib.hid (sink_step (c := q) HI.out (by rw [HN.out]; exact hk) (by have := HK3.out; omega) (by rw [HN.out]; exact hqn') (by have := HK3.out; omega) HM.out (by rw [HE1.out, HE2.out, ← ltb_iff]; exact hlt))
            have HPW := Lib.hid ((swE_perm (by rw [HN.out]; exact hk) (by rw [HN.out]; exact hqn')).trans HP'.out)
            go_wp2_with fail
            go_roundw
            case rel => exact ⟨q, swE M k q, rfl, Nat.le_of_lt hqn', Lib.hid (by rw [swE_len]; exact HN.out), HPW, HIW, HOW, FF3⟩
            case measure => have := HK3.out; simp [intOf]; omega
          · go_simp
            refine hK.out _ _ (sK _ HG1.out) (fun hHeld => ?_)
            clear hK K hHeld
            try simp only [Act.put, List.getElem_toArray, List.getElem_cons_zero, List.getElem_cons_succ, List.setIfInBounds_toArray, List.set_cons_zero, List.set_cons_succ]
            refine wpAnyH_ready (rs := [16]) (by kernel_rfl) (by simp) ?_
            refine AllReadyH.cons rfl (fun K hK => ?_) AllReadyH.nil
            go_simp
            refine hK.out _ _ (sK _ HG1.out) (fun hHeld => ?_)
            clear hK K hHeld
            try simp only [Act.put, List.getElem_toArray, List.getElem_cons_zero, List.getElem_cons_succ, List.setIfInBounds_toArray, List.set_cons_zero, List.set_cons_succ]
            refine wpAnyH_take (i := 24) (v := ?_) rfl (by kernel_rfl) (by kernel_rfl) (by kernel_rfl) (fun _ _ _ h => h) (Or.inl ⟨by rfl, ?_⟩) (sK _ HG1.out) ?_
            rotate_left
            · (intro wS hSw; (try dsimp only at hSw); go_simp; try with_reducible rfl)
            simp only [Act.put, List.getElem_toArray, List.getElem_cons_zero, List.getElem_cons_succ, List.setIfInBounds_toArray, List.set_cons_zero, List.set_cons_succ]
            refine wpAnyH_ready (rs := [25]) (by kernel_rfl) (by simp) ?_
            refine AllReadyH.cons rfl (fun K hK => ?_) AllReadyH.nil
            go_simp
            clear m0 m1 m2 n0 n1 n2 md0 md1 md2 nd0 nd1 nd2 fm0 fm1 fm2 fn0 fn1 fn2 gm0 gm1 gm2 gn0 gn1 gn2
            have hO2 := row_set (i := k) (x := q0) (y := q1) (z := q2) (by simp [HN.out]) hk HO1.out
            have hG2 : Blk (((r1.setCell ⟨r, k * 3, none⟩ (.int .i64 q0)).setCell ⟨r, k * 3 + 1, none⟩ (.int .i64 q1)).setCell ⟨r, k * 3 + 2, none⟩ (.int .i64 q2)).drew g 55 #[.slice (some ⟨r, 0, none⟩) n c] := (((HG1.out.far (p := ⟨r, k * 3, none⟩) hne _).far (p := ⟨r, k * 3 + 1, none⟩) hne _).far (p := ⟨r, k * 3 + 2, none⟩) hne _)
            have hF2 : Fr (fun x => x = r) w (((r1.setCell ⟨r, k * 3, none⟩ (.int .i64 q0)).setCell ⟨r, k * 3 + 1, none⟩ (.int .i64 q1)).setCell ⟨r, k * 3 + 2, none⟩ (.int .i64 q2)).drew := (((FF1.out.setCell (Or.inr rfl) _).setCell (Or.inr rfl) _).setCell (Or.inr rfl) _).drew
            have hQ2 : At (((r1.setCell ⟨r, k * 3, none⟩ (.int .i64 q0)).setCell ⟨r, k * 3 + 1, none⟩ (.int .i64 q1)).setCell ⟨r, k * 3 + 2, none⟩ (.int .i64 q2)).drew r (q * 3) #[.int .i64 q0, .int .i64 q1, .int .i64 q2] := at_apart (by have := HPK.out; omega) HQ.out
            obtain ⟨r3, hr3⟩ : ∃ V, (((r1.setCell ⟨r, k * 3, none⟩ (.int .i64 q0)).setCell ⟨r, k * 3 + 1, none⟩ (.int .i64 q1)).setCell ⟨r, k * 3 + 2, none⟩ (.int .i64 q2)).drew = V := ⟨_, rfl⟩
            rw [hr3] at hO2 hG2 hF2 hQ2 ⊢
            clear hr3
            have HO2 := Lib.hid hO2; have HG2 := Lib.hid hG2; have FF2 := Lib.hid hF2
            have x0 : r3.cell? ⟨r, q * 3, none⟩ = some (.int .i64 q0) := hQ2 0 _ rfl
            have y0 : r3.frozen? ⟨r, q * 3, none⟩ = false := hO2.frozenAt _
            have x1 : r3.cell? ⟨r, q * 3 + 1, none⟩ = some (.int .i64 q1) := hQ2 1 _ rfl
            have y1 : r3.frozen? ⟨r, q * 3 + 1, none⟩ = false := hO2.frozenAt _
            have x2 : r3.cell? ⟨r, q * 3 + 2, none⟩ = some (.int .i64 q2) := hQ2 2 _ rfl
            have y2 : r3.frozen? ⟨r, q * 3 + 2, none⟩ = false := hO2.frozenAt _
            clear hO2 hG2 hF2 hQ2
            refine hK.out _ _ (sK _ HG2.out) (fun hHeld => ?_)
            clear hK K hHeld
            try simp only [Act.put, List.getElem_toArray, List.getElem_cons_zero, List.getElem_cons_succ, List.setIfInBounds_toArray, List.set_cons_zero, List.set_cons_succ]
            refine wpAnyH_take (i := 26) (v := ?_) rfl (by kernel_rfl) (by kernel_rfl) (by kernel_rfl) (fun _ _ _ h => h) (Or.inl ⟨by rfl, ?_⟩) (sK _ HG2.out) ?_
            rotate_left
            · (intro wS hSw; (try dsimp only at hSw); go_simp; try with_reducible rfl)
            simp only [Act.put, List.getElem_toArray, List.getElem_cons_zero, List.getElem_cons_succ, List.setIfInBounds_toArray, List.set_cons_zero, List.set_cons_succ]
            refine wpAnyH_ready (rs := [27]) (by kernel_rfl) (by simp) ?_
            refine AllReadyH.cons rfl (fun K hK => ?_) AllReadyH.nil
            go_simp
            clear x0 x1 x2 y0 y1 y2
            have hO3 := row_set (i := q) (x := a) (y := d) (z := f) (by simp [HN.out]) hqn' HO2.out
            have hG3 : Blk (((r3.setCell ⟨r, q * 3, none⟩ (.int .i64 a)).setCell ⟨r, q * 3 + 1, none⟩ (.int .i64 d)).setCell ⟨r, q * 3 + 2, none⟩ (.int .i64 f)) g 55 #[.slice (some ⟨r, 0, none⟩) n c] := (((HG2.out.far (p := ⟨r, q * 3, none⟩) hne _).far (p := ⟨r, q * 3 + 1, none⟩) hne _).far (p := ⟨r, q * 3 + 2, none⟩) hne _)
            have hF3 : Fr (fun x => x = r) w (((r3.setCell ⟨r, q * 3, none⟩ (.int .i64 a)).setCell ⟨r, q * 3 + 1, none⟩ (.int .i64 d)).setCell ⟨r, q * 3 + 2, none⟩ (.int .i64 f)) := ((FF2.out.setCell (Or.inr rfl) _).setCell (Or.inr rfl) _).setCell (Or.inr rfl) _
            replace hO3 : World.ownsRow (((r3.setCell ⟨r, q * 3, none⟩ (.int .i64 a)).setCell ⟨r, q * 3 + 1, none⟩ (.int .i64 d)).setCell ⟨r, q * 3 + 2, none⟩ (.int .i64 f)) B 24 3 (.slice (some ⟨r, 0, none⟩) n c) n _ := hO3
            obtain ⟨r6, hr6⟩ : ∃ V, (((r3.setCell ⟨r, q * 3, none⟩ (.int .i64 a)).setCell ⟨r, q * 3 + 1, none⟩ (.int .i64 d)).setCell ⟨r, q * 3 + 2, none⟩ (.int .i64 f)) = V := ⟨_, rfl⟩
            rw [hr6] at hO3 hG3 hF3 ⊢
            clear hr6
            have HO3 := Lib.hid hO3; have HG3 := Lib.hid hG3; have FF3 := Lib.hid hF3
            clear hO3 hG3 hF3
            refine hK.out _ _ (sK _ HG3.out) (fun hHeld => ?_)
            clear hK K hHeld
            try simp only [Act.put, List.getElem_toArray, List.getElem_cons_zero, List.getElem_cons_succ, List.setIfInBounds_toArray, List.set_cons_zero, List.set_cons_succ]
            refine wpAnyH_done (by kernel_rfl) ?_ _
            have HOW : Hid (r6.ownsRow B 24 3 (.slice (some ⟨r, 0, none⟩) n c) n (rowM 3 (zE (swE M k q)) n)) := Lib.hid (by have := HO3.out; unfold swE; rw [HE1.out, HE2.out]; exact this)
            have HIW := Lib.hid (sink_step (c := q) HI.out (by rw [HN.out]; exact hk) (by have := HK3.out; omega) (by rw [HN.out]; exact hqn') (by have := HK3.out; omega) HM.out (by rw [HE1.out, HE2.out, ← ltb_iff]; exact hlt))
            have HPW := Lib.hid ((swE_perm (by rw [HN.out]; exact hk) (by rw [HN.out]; exact hqn')).trans HP'.out)
            go_wp2_with fail
            go_roundw
            case rel => exact ⟨q, swE M k q, rfl, Nat.le_of_lt hqn', Lib.hid (by rw [swE_len]; exact HN.out), HPW, HIW, HOW, FF3⟩
            case measure => have := HK3.out; simp [intOf]; omega
        · have EE : Hid (Below r0.heap.size r0 r0) := Lib.hid (Below.refl _ _)
          have kH0 : r0.cell? ⟨g, 0, none⟩ = some (.slice (some ⟨r, 0, none⟩) n c) := HH.out.cell 0
          have kP0 : r0.cell? ⟨r, k * 3, none⟩ = some (.int .i64 a) := HP.out 0 _ rfl
          have kP1 : r0.cell? ⟨r, k * 3 + 1, none⟩ = some (.int .i64 d) := HP.out 1 _ rfl
          have kP2 : r0.cell? ⟨r, k * 3 + 2, none⟩ = some (.int .i64 f) := HP.out 2 _ rfl
          have kQ0 : r0.cell? ⟨r, q * 3, none⟩ = some (.int .i64 q0) := HQ.out 0 _ rfl
          have kQ1 : r0.cell? ⟨r, q * 3 + 1, none⟩ = some (.int .i64 q1) := HQ.out 1 _ rfl
          have kQ2 : r0.cell? ⟨r, q * 3 + 2, none⟩ = some (.int .i64 q2) := HQ.out 2 _ rfl
          go_wp2_with fail
          have sK : ∀ X, Blk X (g) 55 #[.slice (some ⟨r, 0, none⟩) n c] → At X r (k * 3) #[.int .i64 a, .int .i64 d, .int .i64 f] → At X r (q * 3) #[.int .i64 q0, .int .i64 q1, .int .i64 q2] → (fun X => X.cell? ⟨g, 0, none⟩ = some (.slice (some ⟨r, 0, none⟩) n c) ∧ X.cell? ⟨r, k * 3, none⟩ = some (.int .i64 a) ∧ X.cell? ⟨r, k * 3 + 1, none⟩ = some (.int .i64 d) ∧ X.cell? ⟨r, k * 3 + 2, none⟩ = some (.int .i64 f) ∧ X.cell? ⟨r, q * 3, none⟩ = some (.int .i64 q0) ∧ X.cell? ⟨r, q * 3 + 1, none⟩ = some (.int .i64 q1) ∧ X.cell? ⟨r, q * 3 + 2, none⟩ = some (.int .i64 q2)) X := fun X hH hP hQ => ⟨hH.cell 0, hP 0 _ rfl, hP 1 _ rfl, hP 2 _ rfl, hQ 0 _ rfl, hQ 1 _ rfl, hQ 2 _ rfl⟩
          have LH0 := Lib.hid (HH.out.drew)
          have LP0 := Lib.hid (HP.out.drew)
          have LQ0 := Lib.hid (HQ.out.drew)
          have E0 := Lib.hid (EE.out.drew)
          clear kH0 kP0 kP1 kP2 kQ0 kQ1 kQ2
          refine wp_region_held_drew (S := (fun X => X.cell? ⟨g, 0, none⟩ = some (.slice (some ⟨r, 0, none⟩) n c) ∧ X.cell? ⟨r, k * 3, none⟩ = some (.int .i64 a) ∧ X.cell? ⟨r, k * 3 + 1, none⟩ = some (.int .i64 d) ∧ X.cell? ⟨r, k * 3 + 2, none⟩ = some (.int .i64 f) ∧ X.cell? ⟨r, q * 3, none⟩ = some (.int .i64 q0) ∧ X.cell? ⟨r, q * 3 + 1, none⟩ = some (.int .i64 q1) ∧ X.cell? ⟨r, q * 3 + 2, none⟩ = some (.int .i64 q2))) (by kernel_rfl) (sK _ LH0.out LP0.out LQ0.out) (fun hHeld => ?_)
          clear hHeld
          refine wpAnyH_take (i := 0) (v := ?_) rfl (by kernel_rfl) (by kernel_rfl) (by kernel_rfl) (fun _ _ _ h => h) (Or.inl ⟨by rfl, ?_⟩) (sK _ LH0.out LP0.out LQ0.out) ?_
          rotate_left
          · (intro wS hSw; (try dsimp only at hSw); go_simp; try with_reducible rfl)
          simp only [Act.put, List.getElem_toArray, List.getElem_cons_zero, List.getElem_cons_succ, List.setIfInBounds_toArray, List.set_cons_zero, List.set_cons_succ]
          refine wpAnyH_take (i := 1) (v := ?_) rfl (by kernel_rfl) (by kernel_rfl) (by kernel_rfl) (fun _ _ _ h => h) (Or.inl ⟨by rfl, ?_⟩) (sK _ LH0.out LP0.out LQ0.out) ?_
          rotate_left
          · (intro wS hSw; (try dsimp only at hSw); go_simp; try with_reducible rfl)
          simp only [Act.put, List.getElem_toArray, List.getElem_cons_zero, List.getElem_cons_succ, List.setIfInBounds_toArray, List.set_cons_zero, List.set_cons_succ]
          refine wpAnyH_take (i := 2) (v := ?_) rfl (by kernel_rfl) (by kernel_rfl) (by kernel_rfl) (fun _ _ _ h => h) (Or.inl ⟨by rfl, ?_⟩) (sK _ LH0.out LP0.out LQ0.out) ?_
          rotate_left
          · (intro wS hSw; (try dsimp only at hSw); go_simp; try with_reducible rfl)
          simp only [Act.put, List.getElem_toArray, List.getElem_cons_zero, List.getElem_cons_succ, List.setIfInBounds_toArray, List.set_cons_zero, List.set_cons_succ]
          refine wpAnyH_take (i := 3) (v := ?_) rfl (by kernel_rfl) (by kernel_rfl) (by kernel_rfl) (fun _ _ _ h => h) (Or.inl ⟨by rfl, ?_⟩) (sK _ LH0.out LP0.out LQ0.out) ?_
          rotate_left
          · (intro wS hSw; (try dsimp only at hSw); go_simp; try with_reducible rfl)
          simp only [Act.put, List.getElem_toArray, List.getElem_cons_zero, List.getElem_cons_succ, List.setIfInBounds_toArray, List.set_cons_zero, List.set_cons_succ]
          refine wpAnyH_take (i := 4) (v := ?_) rfl (by kernel_rfl) (by kernel_rfl) (by kernel_rfl) (fun _ _ _ h => h) (Or.inl ⟨by rfl, ?_⟩) (sK _ LH0.out LP0.out LQ0.out) ?_
          rotate_left
          · (intro wS hSw; (try dsimp only at hSw); go_simp; try with_reducible rfl)
          simp only [Act.put, List.getElem_toArray, List.getElem_cons_zero, List.getElem_cons_succ, List.setIfInBounds_toArray, List.set_cons_zero, List.set_cons_succ]
          refine wpAnyH_take (i := 5) (v := ?_) rfl (by kernel_rfl) (by kernel_rfl) (by kernel_rfl) (fun _ _ _ h => h) (Or.inl ⟨by rfl, ?_⟩) (sK _ LH0.out LP0.out LQ0.out) ?_
          rotate_left
          · (intro wS hSw; (try dsimp only at hSw); go_simp; try with_reducible rfl)
          simp only [Act.put, List.getElem_toArray, List.getElem_cons_zero, List.getElem_cons_succ, List.setIfInBounds_toArray, List.set_cons_zero, List.set_cons_succ]
          refine wpAnyH_take (i := 6) (v := ?_) rfl (by kernel_rfl) (by kernel_rfl) (by kernel_rfl) (fun _ _ _ h => h) (Or.inl ⟨by rfl, ?_⟩) (sK _ LH0.out LP0.out LQ0.out) ?_
          rotate_left
          · (intro wS hSw; (try dsimp only at hSw); go_simp; try with_reducible rfl)
          simp only [Act.put, List.getElem_toArray, List.getElem_cons_zero, List.getElem_cons_succ, List.setIfInBounds_toArray, List.set_cons_zero, List.set_cons_succ]
          refine wpAnyH_take (i := 7) (v := ?_) rfl (by kernel_rfl) (by kernel_rfl) (by kernel_rfl) (fun _ _ _ h => h) (Or.inl ⟨by rfl, ?_⟩) (sK _ LH0.out LP0.out LQ0.out) ?_
          rotate_left
          · (intro wS hSw; (try dsimp only at hSw); go_simp; try with_reducible rfl)
          simp only [Act.put, List.getElem_toArray, List.getElem_cons_zero, List.getElem_cons_succ, List.setIfInBounds_toArray, List.set_cons_zero, List.set_cons_succ]
          refine wpAnyH_take (i := 8) (v := ?_) rfl (by kernel_rfl) (by kernel_rfl) (by kernel_rfl) (fun _ _ _ h => h) (Or.inl ⟨by rfl, ?_⟩) (sK _ LH0.out LP0.out LQ0.out) ?_
          rotate_left
          · (intro wS hSw; (try dsimp only at hSw); go_simp; try with_reducible rfl)
          simp only [Act.put, List.getElem_toArray, List.getElem_cons_zero, List.getElem_cons_succ, List.setIfInBounds_toArray, List.set_cons_zero, List.set_cons_succ]
          refine wpAnyH_take (i := 9) (v := ?_) rfl (by kernel_rfl) (by kernel_rfl) (by kernel_rfl) (fun _ _ _ h => h) (Or.inl ⟨by rfl, ?_⟩) (sK _ LH0.out LP0.out LQ0.out) ?_
          rotate_left
          · (intro wS hSw; (try dsimp only at hSw); go_simp; try with_reducible rfl)
          simp only [Act.put, List.getElem_toArray, List.getElem_cons_zero, List.getElem_cons_succ, List.setIfInBounds_toArray, List.set_cons_zero, List.set_cons_succ]
          refine wpAnyH_take (i := 10) (v := ?_) rfl (by kernel_rfl) (by kernel_rfl) (by kernel_rfl) (fun _ _ _ h => h) (Or.inl ⟨by rfl, ?_⟩) (sK _ LH0.out LP0.out LQ0.out) ?_
          rotate_left
          · (intro wS hSw; (try dsimp only at hSw); go_simp; try with_reducible rfl)
          simp only [Act.put, List.getElem_toArray, List.getElem_cons_zero, List.getElem_cons_succ, List.setIfInBounds_toArray, List.set_cons_zero, List.set_cons_succ]
          refine wpAnyH_take (i := 11) (v := ?_) rfl (by kernel_rfl) (by kernel_rfl) (by kernel_rfl) (fun _ _ _ h => h) (Or.inl ⟨by rfl, ?_⟩) (sK _ LH0.out LP0.out LQ0.out) ?_
          rotate_left
          · (intro wS hSw; (try dsimp only at hSw); go_simp; try with_reducible rfl)
          simp only [Act.put, List.getElem_toArray, List.getElem_cons_zero, List.getElem_cons_succ, List.setIfInBounds_toArray, List.set_cons_zero, List.set_cons_succ]
          refine wpAnyH_take (i := 12) (v := ?_) rfl (by kernel_rfl) (by kernel_rfl) (by kernel_rfl) (fun _ _ _ h => h) (Or.inl ⟨by rfl, ?_⟩) (sK _ LH0.out LP0.out LQ0.out) ?_
          rotate_left
          · (intro wS hSw; (try dsimp only at hSw); go_simp; try with_reducible rfl)
          simp only [Act.put, List.getElem_toArray, List.getElem_cons_zero, List.getElem_cons_succ, List.setIfInBounds_toArray, List.set_cons_zero, List.set_cons_succ]
          refine wpAnyH_take (i := 13) (v := ?_) rfl (by kernel_rfl) (by kernel_rfl) (by kernel_rfl) (fun _ _ _ h => h) (Or.inl ⟨by rfl, ?_⟩) (sK _ LH0.out LP0.out LQ0.out) ?_
          rotate_left
          · (intro wS hSw; (try dsimp only at hSw); go_simp; try with_reducible rfl)
          simp only [Act.put, List.getElem_toArray, List.getElem_cons_zero, List.getElem_cons_succ, List.setIfInBounds_toArray, List.set_cons_zero, List.set_cons_succ]
          refine wpAnyH_ready (rs := [14]) (by kernel_rfl) (by simp) ?_
          refine AllReadyH.cons rfl (fun K hK => ?_) AllReadyH.nil
          go_simp
          refine (less_any (q0, q1, q2) (a, d, f) _).mono ?_
          rintro e r1 ⟨rfl, hb⟩
          have LH1 := Lib.hid (Blk.next (w := r0.drew) LH0.out hb)
          have LP1 := Lib.hid (At.next (w := r0.drew) LP0.out hb)
          have LQ1 := Lib.hid (At.next (w := r0.drew) LQ0.out hb)
          have E1 := Lib.hid (E0.out.trans (hb.mono E0.out.size))
          rw [hlt]
          clear hb
          go_wp2_with fail
          refine hK.out _ _ (sK _ LH1.out LP1.out LQ1.out) (fun hHeld => ?_)
          clear hK K hHeld
          try simp only [Act.put, List.getElem_toArray, List.getElem_cons_zero, List.getElem_cons_succ, List.setIfInBounds_toArray, List.set_cons_zero, List.set_cons_succ]
          refine wpAnyH_take (i := 15) (v := ?_) rfl (by kernel_rfl) (by kernel_rfl) (by kernel_rfl) (fun _ _ _ h => h) (Or.inl ⟨by rfl, ?_⟩) (sK _ LH1.out LP1.out LQ1.out) ?_
          rotate_left
          · (intro wS hSw; (try dsimp only at hSw); go_simp; try with_reducible rfl)
          simp only [Act.put, List.getElem_toArray, List.getElem_cons_zero, List.getElem_cons_succ, List.setIfInBounds_toArray, List.set_cons_zero, List.set_cons_succ]
          refine wpAnyH_done (by kernel_rfl) ?_ _
          have HO1 := Lib.hid (ownM_below HO1.out E1.out)
          have FF1 := Lib.hid (FF1.out.below E1.out)
          go_wp2_with fail
          go_end0
          exact ⟨rfl, M, HP'.out, sink_done HI.out (fun i i0 hi hp => ltE_trans (by rw [HE1.out, HE2.out, ← ltb_iff, hlt]; simp) (HM.out i i0 hi hp)), HO1.out, FF1.out⟩
end Go.Proofs.Ytobeppajomhfjaa
