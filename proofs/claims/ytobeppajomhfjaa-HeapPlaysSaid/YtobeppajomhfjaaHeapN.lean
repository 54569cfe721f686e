/- A heap of entries: an entry rises, sinks. -/
import Derived.Test.YtobeppajomhfjaaHeapM
import Derived.Test.YtobeppajomhfjaaFrame
import Derived.WalkKit
import Derived.IntWalk
import Derived.Lib.Hide
import Derived.WalkSpells
import Derived.WalkLawsBesides
import Derived.OwnWalk
import Derived.BigRegion
import Derived.Deep.LoopGhost
import Derived.Deep.RegionHeld3
import Derived.Deep.QuietTactic
import Derived.BigQuiet
import Derived.Laws.CopyOwn
import Derived.Laws.MakeOwn
import Derived.Laws.OwnMore
import Derived.Laws.AppendOwnNone
namespace Go.Proofs.Ytobeppajomhfjaa
open Go.RowKit
set_option linter.unusedVariables false
set_option linter.unusedSimpArgs false
theorem zE_sw {L : List Ent} {i j : Nat} (hi : i < L.length) (hj : j < L.length) (a b : Nat) : zE (swE L i j) a b = if a = j then zE L i b else if a = i then zE L j b else zE L a b := by
  have h := eE_sw (k := a) hi hj
  rw [eE_eq, eE_eq, eE_eq, eE_eq] at h
  have e : ∀ (M : List Ent) (q : Nat), zE M q b = if b = 0 then (M.getD q (0, 0, 0)).1 else if b = 1 then (M.getD q (0, 0, 0)).2.1 else (M.getD q (0, 0, 0)).2.2 := fun _ _ => rfl
  by_cases h1 : a = j
  · rw [if_pos h1] at h ⊢
    rw [e, e, h]
  · rw [if_neg h1] at h ⊢
    by_cases h2 : a = i
    · rw [if_pos h2] at h ⊢
      rw [e, e, h]
    · rw [if_neg h2] at h ⊢
      rw [e, e, h]
theorem zE_set {L : List Ent} {i : Nat} {x : Ent} (hi : i < L.length) (a b : Nat) : zE (L.set i x) a b = if a = i then (if b = 0 then x.1 else if b = 1 then x.2.1 else x.2.2) else zE L a b := by
  have h := eE_set (k := a) (x := x) hi
  rw [eE_eq, eE_eq] at h
  have e : ∀ (M : List Ent) (q : Nat), zE M q b = if b = 0 then (M.getD q (0, 0, 0)).1 else if b = 1 then (M.getD q (0, 0, 0)).2.1 else (M.getD q (0, 0, 0)).2.2 := fun _ _ => rfl
  by_cases h1 : a = i
  · rw [if_pos h1] at h ⊢
    rw [e, h]
  · rw [if_neg h1] at h ⊢
    rw [e, e, h]
theorem row_set {w : World} {B r n c i : Nat} {M : List Ent} {x y z : Int} (hn : M.length = n) (hi : i < n) (h : w.ownsRow B 24 3 (.slice (some ⟨r, 0, none⟩) n c) n (rowM 3 (zE M) n)) :
    (((w.setCell ⟨r, i * 3, none⟩ (.int .i64 x)).setCell ⟨r, i * 3 + 1, none⟩ (.int .i64 y)).setCell ⟨r, i * 3 + 2, none⟩ (.int .i64 z)).drew.ownsRow B 24 3 (.slice (some ⟨r, 0, none⟩) n c) n (rowM 3 (zE (M.set i (x, y, z))) n) := by
  have h1 := ownM_put (i := i) (j := 0) h (by omega) x
  have h2 := ownM_put (i := i) (j := 1) h1 (by omega) y
  have h3 := ownM_put (i := i) (j := 2) h2 (by omega) z
  have e := rowM_congr (m := 3) (n := n) (a := fun a b => if a = i ∧ b = 2 then z else if a = i ∧ b = 1 then y else if a = i ∧ b = 0 then x else zE M a b) (b := zE (M.set i (x, y, z))) (fun q j hq hj => by
    rw [zE_set (by omega)]
    have hj3 : j = 0 ∨ j = 1 ∨ j = 2 := by omega
    by_cases q2 : q = i
    · rcases hj3 with rfl | rfl | rfl <;> simp [q2]
    · simp [q2])
  rw [e] at h3
  exact h3
def RisR (B r n c : Nat) (L : List Ent) (w : World) (e : Ending) (w' : World) : Prop := e = .returned (.tuple #[]) ∧ ∃ M, M.Perm L ∧ HeapO M ∧ w'.ownsRow B 24 3 (.slice (some ⟨r, 0, none⟩) n c) n (rowM 3 (zE M) n) ∧ Fr (fun x => x = r) w w'
theorem at_apart {w : World} {r k p : Nat} {a b c : Value} {x y z : Value} (h : k ≠ p) (hq : At w r (p * 3) #[x, y, z]) : At (((w.setCell ⟨r, k * 3, none⟩ a).setCell ⟨r, k * 3 + 1, none⟩ b).setCell ⟨r, k * 3 + 2, none⟩ c) r (p * 3) #[x, y, z] := fun i v hv => by
  have hi : i < 3 := by
    rcases Nat.lt_or_ge i 3 with h | h
    · exact h
    · rw [Array.getElem?_eq_none (by simpa using h)] at hv; cases hv
  have := hq i v hv
  rw [World.cell?_setCell_other _ _ _ _ (fun e => by have h := congrArg Addr.off e; dsimp at h; omega), World.cell?_setCell_other _ _ _ _ (fun e => by have h := congrArg Addr.off e; dsimp at h; omega), World.cell?_setCell_other _ _ _ _ (fun e => by have h := congrArg Addr.off e; dsimp at h; omega)]
  exact this
set_option maxRecDepth 100000 in
set_option maxHeartbeats 20000000 in
theorem rise_any (B g r c k n : Nat) (L : List Ent) (w : World) (hb : Blk w g 55 #[.slice (some ⟨r, 0, none⟩) n c]) (hne : g ≠ r) (hn : L.length = n) (ho : w.ownsRow B 24 3 (.slice (some ⟨r, 0, none⟩) n c) n (rowM 3 (zE L) n)) (hi : RiseI L k) (hk : k < n) (hl : n ≤ 100000) :
    Calls Try.prog 35 #[.pointer (some ⟨g, 0, none⟩), .int .i64 k] w (RisR B r n c L w) := by
  have HB := Lib.hid hb; have HN := Lib.hid hn; have HO := Lib.hid ho; have HI := Lib.hid hi
  clear hb hn ho hi
  go_enter Try.func35, Try.ntmps35
  go_wp2_with fail
  go_loopw [1] (fun i wr => ∃ (k : Nat) (M : List Ent), i = .int .i64 k ∧ k < n ∧ Hid (M.length = n) ∧ Hid (M.Perm L) ∧ Hid (RiseI M k) ∧ Hid (wr.ownsRow B 24 3 (.slice (some ⟨r, 0, none⟩) n c) n (rowM 3 (zE M) n)) ∧ Hid (Fr (fun x => x = r) w wr)) (fun i _ => (intOf i).toNat)
  case atStart => exact ⟨k, L, rfl, hk, HN, Lib.hid (List.Perm.refl _), HI, HO, Lib.hid (Fr.refl _ _)⟩
  case round =>
    clear HO HI HN hk k
    obtain ⟨k, M, rfl, hk, HN, HP, HI, HO, FF⟩ := hrel
    have HG : Hid (Blk wr g 55 #[.slice (some ⟨r, 0, none⟩) n c]) := Lib.hid (HB.out.fr FF.out (show ¬ g = r from hne))
    by_cases hk0 : k = 0
    · have hkz : ¬ (0 : Int) < (k : Int) := by omega
      have hkz2 : ¬ 0 < k := by omega
      have hk0' := Lib.hid hk0
      clear hk0
      go_wp2_with fail
      go_end0
      exact ⟨rfl, M, HP.out, rise_done HI.out (fun h => absurd h hkz2), HO.out, FF.out⟩
    have hkp : (0 : Int) < (k : Int) := by omega
    have hkp2 : 0 < k := by omega
    have hki : (k : Int) < (n : Int) := by omega
    obtain ⟨j, hj⟩ : ∃ j, k - 1 = j := ⟨_, rfl⟩
    obtain ⟨p, hp⟩ : ∃ p, j / 2 = p := ⟨_, rfl⟩
    have hw1 : IntKind.i64.wrap ((k : Int) - 1) = (j : Int) := by rw [IntWalk.i64_in _ (by omega)]; omega
    have hw2 : IntKind.i64.wrap (Int.tdiv (j : Int) 2) = (p : Int) := by rw [Int.tdiv_eq_ediv_of_nonneg (by omega), IntWalk.i64_in _ (by omega)]; omega
    have hw3 : wrap64 ((j : Int) / 2) = (p : Int) := by rw [IntWalk.wrap64_in _ (by omega)]; omega
    have hpn : p < n := by omega
    have hpi : (p : Int) < (n : Int) := by omega
    have HPK : Hid ((k - 1) / 2 = p ∧ p < k) := Lib.hid (by omega)
    clear hj hp hk0
    have c0 : wr.cell? ⟨r, k * 3, none⟩ = _ := ownM_at HO.out (i := k) (j := 0) hk (by omega)
    have c1 : wr.cell? ⟨r, k * 3 + 1, none⟩ = _ := ownM_at HO.out (i := k) (j := 1) hk (by omega)
    have c2 : wr.cell? ⟨r, k * 3 + 2, none⟩ = _ := ownM_at HO.out (i := k) (j := 2) hk (by omega)
    have d0 : wr.cell? ⟨r, p * 3, none⟩ = _ := ownM_at HO.out (i := p) (j := 0) hpn (by omega)
    have d1 : wr.cell? ⟨r, p * 3 + 1, none⟩ = _ := ownM_at HO.out (i := p) (j := 1) hpn (by omega)
    have d2 : wr.cell? ⟨r, p * 3 + 2, none⟩ = _ := ownM_at HO.out (i := p) (j := 2) hpn (by omega)
    have e1 : eE M k = (zE M k 0, zE M k 1, zE M k 2) := rfl
    have e2 : eE M p = (zE M p 0, zE M p 1, zE M p 2) := rfl
    obtain ⟨a, ha⟩ : ∃ y, zE M k 0 = y := ⟨_, rfl⟩
    rw [ha] at c0 e1
    clear ha
    obtain ⟨d, hd⟩ : ∃ y, zE M k 1 = y := ⟨_, rfl⟩
    rw [hd] at c1 e1
    clear hd
    obtain ⟨f, hf⟩ : ∃ y, zE M k 2 = y := ⟨_, rfl⟩
    rw [hf] at c2 e1
    clear hf
    obtain ⟨q0, hq0⟩ : ∃ y, zE M p 0 = y := ⟨_, rfl⟩
    rw [hq0] at d0 e2
    clear hq0
    obtain ⟨q1, hq1⟩ : ∃ y, zE M p 1 = y := ⟨_, rfl⟩
    rw [hq1] at d1 e2
    clear hq1
    obtain ⟨q2, hq2⟩ : ∃ y, zE M p 2 = y := ⟨_, rfl⟩
    rw [hq2] at d2 e2
    clear hq2
    have HE1 := Lib.hid e1; have HE2 := Lib.hid e2
    have HP3 := Lib.hid (at3 c0 c1 c2); have HQ3 := Lib.hid (at3 d0 d1 d2)
    have EE : Hid (Below wr.heap.size wr wr) := Lib.hid (Below.refl _ _)
    clear c0 c1 c2 d0 d1 d2 e1 e2
    have HH := HG; have HP' := HP; clear HP; have HP := HP3; have HQ := HQ3
    clear HP3 HQ3
    rcases Bool.eq_false_or_eq_true (ltb (a, d, f) (q0, q1, q2)) with hlt | hlt
    · have kH0 : wr.cell? ⟨g, 0, none⟩ = some (.slice (some ⟨r, 0, none⟩) n c) := HH.out.cell 0
      have kP0 : wr.cell? ⟨r, k * 3, none⟩ = some (.int .i64 a) := HP.out 0 _ rfl
      have kP1 : wr.cell? ⟨r, k * 3 + 1, none⟩ = some (.int .i64 d) := HP.out 1 _ rfl
      have kP2 : wr.cell? ⟨r, k * 3 + 2, none⟩ = some (.int .i64 f) := HP.out 2 _ rfl
      have kQ0 : wr.cell? ⟨r, p * 3, none⟩ = some (.int .i64 q0) := HQ.out 0 _ rfl
      have kQ1 : wr.cell? ⟨r, p * 3 + 1, none⟩ = some (.int .i64 q1) := HQ.out 1 _ rfl
      have kQ2 : wr.cell? ⟨r, p * 3 + 2, none⟩ = some (.int .i64 q2) := HQ.out 2 _ rfl
      go_wp2_with fail
      have sK : ∀ X, Blk X (g) 55 #[.slice (some ⟨r, 0, none⟩) n c] → At X r (k * 3) #[.int .i64 a, .int .i64 d, .int .i64 f] → At X r (p * 3) #[.int .i64 q0, .int .i64 q1, .int .i64 q2] → (fun X => X.cell? ⟨g, 0, none⟩ = some (.slice (some ⟨r, 0, none⟩) n c) ∧ X.cell? ⟨r, k * 3, none⟩ = some (.int .i64 a) ∧ X.cell? ⟨r, k * 3 + 1, none⟩ = some (.int .i64 d) ∧ X.cell? ⟨r, k * 3 + 2, none⟩ = some (.int .i64 f) ∧ X.cell? ⟨r, p * 3, none⟩ = some (.int .i64 q0) ∧ X.cell? ⟨r, p * 3 + 1, none⟩ = some (.int .i64 q1) ∧ X.cell? ⟨r, p * 3 + 2, none⟩ = some (.int .i64 q2)) X := fun X hH hP hQ => ⟨hH.cell 0, hP 0 _ rfl, hP 1 _ rfl, hP 2 _ rfl, hQ 0 _ rfl, hQ 1 _ rfl, hQ 2 _ rfl⟩
      have LH0 := Lib.hid (HH.out.drew)
      have LP0 := Lib.hid (HP.out.drew)
      have LQ0 := Lib.hid (HQ.out.drew)
      have E0 := Lib.hid (EE.out.drew)
      clear kH0 kP0 kP1 kP2 kQ0 kQ1 kQ2
      refine wp_region_held_drew (S := (fun X => X.cell? ⟨g, 0, none⟩ = some (.slice (some ⟨r, 0, none⟩) n c) ∧ X.cell? ⟨r, k * 3, none⟩ = some (.int .i64 a) ∧ X.cell? ⟨r, k * 3 + 1, none⟩ = some (.int .i64 d) ∧ X.cell? ⟨r, k * 3 + 2, none⟩ = some (.int .i64 f) ∧ X.cell? ⟨r, p * 3, none⟩ = some (.int .i64 q0) ∧ X.cell? ⟨r, p * 3 + 1, none⟩ = some (.int .i64 q1) ∧ X.cell? ⟨r, p * 3 + 2, none⟩ = some (.int .i64 q2))) (by kernel_rfl) (sK _ LH0.out LP0.out LQ0.out) (fun hHeld => ?_)
      clear hHeld
      refine wpAnyH_take (i := 0) (v := ?_) rfl (by kernel_rfl) (by kernel_rfl) (by kernel_rfl) (fun _ _ _ h => h) (Or.inl ⟨by rfl, ?_⟩) (sK _ LH0.out LP0.out LQ0.out) ?_
      rotate_left
      · (intro wS hSw; (try dsimp only at hSw); go_simp; try with_reducible rfl)
      simp only [Act.put, List.getElem_toArray, List.getElem_cons_zero, List.getElem_cons_succ, List.setIfInBounds_toArray, List.set_cons_zero, List.set_cons_succ]
      refine wpAnyH_take (i := 1) (v := ?_) rfl (by kernel_rfl) (by kernel_rfl) (by kernel_rfl) (fun _ _ _ h => h) (Or.inl ⟨by rfl, ?_⟩) (sK _ LH0.out LP0.out LQ0.out) ?_
      rotate_left
      · (intro wS hSw; (try dsimp only at hSw); go_simp; try with_reducible rfl)
      simp only [Act.put, List.getElem_toArray, List.getElem_cons_zero, List.getElem_cons_succ, List.setIfInBounds_toArray, List.set_cons_zero, List.set_cons_succ]
      refine wpAnyH_take (i := 2) (v := ?_) rfl (by kernel_rfl) (by kernel_rfl) (by kernel_rfl) (fun _ _ _ h => h) (Or.inl ⟨by rfl, ?_⟩) (sK _ LH0.out LP0.out LQ0.out) ?_
      rotate_left
      · (intro wS hSw; (try dsimp only at hSw); go_simp; try with_reducible rfl)
      simp only [Act.put, List.getElem_toArray, List.getElem_cons_zero, List.getElem_cons_succ, List.setIfInBounds_toArray, List.set_cons_zero, List.set_cons_succ]
      refine wpAnyH_take (i := 3) (v := ?_) rfl (by kernel_rfl) (by kernel_rfl) (by kernel_rfl) (fun _ _ _ h => h) (Or.inl ⟨by rfl, ?_⟩) (sK _ LH0.out LP0.out LQ0.out) ?_
      rotate_left
      · (intro wS hSw; (try dsimp only at hSw); go_simp; try with_reducible rfl)
      simp only [Act.put, List.getElem_toArray, List.getElem_cons_zero, List.getElem_cons_succ, List.setIfInBounds_toArray, List.set_cons_zero, List.set_cons_succ]
      refine wpAnyH_take (i := 4) (v := ?_) rfl (by kernel_rfl) (by kernel_rfl) (by kernel_rfl) (fun _ _ _ h => h) (Or.inl ⟨by rfl, ?_⟩) (sK _ LH0.out LP0.out LQ0.out) ?_
      rotate_left
      · (intro wS hSw; (try dsimp only at hSw); go_simp; try with_reducible rfl)
      simp only [Act.put, List.getElem_toArray, List.getElem_cons_zero, List.getElem_cons_succ, List.setIfInBounds_toArray, List.set_cons_zero, List.set_cons_succ]
      refine wpAnyH_take (i := 5) (v := ?_) rfl (by kernel_rfl) (by kernel_rfl) (by kernel_rfl) (fun _ _ _ h => h) (Or.inl ⟨by rfl, ?_⟩) (sK _ LH0.out LP0.out LQ0.out) ?_
      rotate_left
      · (intro wS hSw; (try dsimp only at hSw); go_simp; try with_reducible rfl)
      simp only [Act.put, List.getElem_toArray, List.getElem_cons_zero, List.getElem_cons_succ, List.setIfInBounds_toArray, List.set_cons_zero, List.set_cons_succ]
      refine wpAnyH_take (i := 6) (v := ?_) rfl (by kernel_rfl) (by kernel_rfl) (by kernel_rfl) (fun _ _ _ h => h) (Or.inl ⟨by rfl, ?_⟩) (sK _ LH0.out LP0.out LQ0.out) ?_
      rotate_left
      · (intro wS hSw; (try dsimp only at hSw); go_simp; try with_reducible rfl)
      simp only [Act.put, List.getElem_toArray, List.getElem_cons_zero, List.getElem_cons_succ, List.setIfInBounds_toArray, List.set_cons_zero, List.set_cons_succ]
      refine wpAnyH_take (i := 7) (v := ?_) rfl (by kernel_rfl) (by kernel_rfl) (by kernel_rfl) (fun _ _ _ h => h) (Or.inl ⟨by rfl, ?_⟩) (sK _ LH0.out LP0.out LQ0.out) ?_
      rotate_left
      · (intro wS hSw; (try dsimp only at hSw); go_simp; try with_reducible rfl)
      simp only [Act.put, List.getElem_toArray, List.getElem_cons_zero, List.getElem_cons_succ, List.setIfInBounds_toArray, List.set_cons_zero, List.set_cons_succ]
      refine wpAnyH_take (i := 8) (v := ?_) rfl (by kernel_rfl) (by kernel_rfl) (by kernel_rfl) (fun _ _ _ h => h) (Or.inl ⟨by rfl, ?_⟩) (sK _ LH0.out LP0.out LQ0.out) ?_
      rotate_left
      · (intro wS hSw; (try dsimp only at hSw); go_simp; try with_reducible rfl)
      simp only [Act.put, List.getElem_toArray, List.getElem_cons_zero, List.getElem_cons_succ, List.setIfInBounds_toArray, List.set_cons_zero, List.set_cons_succ]
      refine wpAnyH_take (i := 9) (v := ?_) rfl (by kernel_rfl) (by kernel_rfl) (by kernel_rfl) (fun _ _ _ h => h) (Or.inl ⟨by rfl, ?_⟩) (sK _ LH0.out LP0.out LQ0.out) ?_
      rotate_left
      · (intro wS hSw; (try dsimp only at hSw); go_simp; try with_reducible rfl)
      simp only [Act.put, List.getElem_toArray, List.getElem_cons_zero, List.getElem_cons_succ, List.setIfInBounds_toArray, List.set_cons_zero, List.set_cons_succ]
      refine wpAnyH_take (i := 10) (v := ?_) rfl (by kernel_rfl) (by kernel_rfl) (by kernel_rfl) (fun _ _ _ h => h) (Or.inl ⟨by rfl, ?_⟩) (sK _ LH0.out LP0.out LQ0.out) ?_
      rotate_left
      · (intro wS hSw; (try dsimp only at hSw); go_simp; try with_reducible rfl)
      simp only [Act.put, List.getElem_toArray, List.getElem_cons_zero, List.getElem_cons_succ, List.setIfInBounds_toArray, List.set_cons_zero, List.set_cons_succ]
      refine wpAnyH_take (i := 11) (v := ?_) rfl (by kernel_rfl) (by kernel_rfl) (by kernel_rfl) (fun _ _ _ h => h) (Or.inl ⟨by rfl, ?_⟩) (sK _ LH0.out LP0.out LQ0.out) ?_
      rotate_left
      · (intro wS hSw; (try dsimp only at hSw); go_simp; try with_reducible rfl)
      simp only [Act.put, List.getElem_toArray, List.getElem_cons_zero, List.getElem_cons_succ, List.setIfInBounds_toArray, List.set_cons_zero, List.set_cons_succ]
      refine wpAnyH_take (i := 12) (v := ?_) rfl (by kernel_rfl) (by kernel_rfl) (by kernel_rfl) (fun _ _ _ h => h) (Or.inl ⟨by rfl, ?_⟩) (sK _ LH0.out LP0.out LQ0.out) ?_
      rotate_left
      · (intro wS hSw; (try dsimp only at hSw); go_simp; try with_reducible rfl)
      simp only [Act.put, List.getElem_toArray, List.getElem_cons_zero, List.getElem_cons_succ, List.setIfInBounds_toArray, List.set_cons_zero, List.set_cons_succ]
      refine wpAnyH_take (i := 13) (v := ?_) rfl (by kernel_rfl) (by kernel_rfl) (by kernel_rfl) (fun _ _ _ h => h) (Or.inl ⟨by rfl, ?_⟩) (sK _ LH0.out LP0.out LQ0.out) ?_
      rotate_left
      · (intro wS hSw; (try dsimp only at hSw); go_simp; try with_reducible rfl)
      simp only [Act.put, List.getElem_toArray, List.getElem_cons_zero, List.getElem_cons_succ, List.setIfInBounds_toArray, List.set_cons_zero, List.set_cons_succ]
      refine wpAnyH_ready (rs := [14]) (by kernel_rfl) (by simp) ?_
      refine AllReadyH.cons rfl (fun K hK => ?_) AllReadyH.nil
      go_simp
      refine (less_any (a, d, f) (q0, q1, q2) _).mono ?_
      rintro e r1 ⟨rfl, hb⟩
      have LH1 := Lib.hid (Blk.next (w := wr.drew) LH0.out hb)
      have LP1 := Lib.hid (At.next (w := wr.drew) LP0.out hb)
      have LQ1 := Lib.hid (At.next (w := wr.drew) LQ0.out hb)
      have E1 := Lib.hid (E0.out.trans (hb.mono E0.out.size))
      rw [hlt]
      clear hb
      go_wp2_with fail
      refine hK.out _ _ (sK _ LH1.out LP1.out LQ1.out) (fun hHeld => ?_)
      clear hK K hHeld
      try simp only [Act.put, List.getElem_toArray, List.getElem_cons_zero, List.getElem_cons_succ, List.setIfInBounds_toArray, List.set_cons_zero, List.set_cons_succ]
      refine wpAnyH_take (i := 15) (v := ?_) rfl (by kernel_rfl) (by kernel_rfl) (by kernel_rfl) (fun _ _ _ h => h) (Or.inl ⟨by rfl, ?_⟩) (sK _ LH1.out LP1.out LQ1.out) ?_
      rotate_left
      · (intro wS hSw; (try dsimp only at hSw); go_simp; try with_reducible rfl)
      simp only [Act.put, List.getElem_toArray, List.getElem_cons_zero, List.getElem_cons_succ, List.setIfInBounds_toArray, List.set_cons_zero, List.set_cons_succ]
      refine wpAnyH_done (by kernel_rfl) ?_ _
      have HO1 := Lib.hid (ownM_below HO.out E1.out)
      have FF1 := Lib.hid (FF.out.below E1.out)
      have HH := LH1
      have HP := LP1
      have HQ := LQ1
      have EE := E1
      have kH0 : r1.cell? ⟨g, 0, none⟩ = some (.slice (some ⟨r, 0, none⟩) n c) := HH.out.cell 0
      have kP0 : r1.cell? ⟨r, k * 3, none⟩ = some (.int .i64 a) := HP.out 0 _ rfl
      have kP1 : r1.cell? ⟨r, k * 3 + 1, none⟩ = some (.int .i64 d) := HP.out 1 _ rfl
      have kP2 : r1.cell? ⟨r, k * 3 + 2, none⟩ = some (.int .i64 f) := HP.out 2 _ rfl
      have kQ0 : r1.cell? ⟨r, p * 3, none⟩ = some (.int .i64 q0) := HQ.out 0 _ rfl
      have kQ1 : r1.cell? ⟨r, p * 3 + 1, none⟩ = some (.int .i64 q1) := HQ.out 1 _ rfl
      have kQ2 : r1.cell? ⟨r, p * 3 + 2, none⟩ = some (.int .i64 q2) := HQ.out 2 _ rfl
      have HG1 := HH
      clear kH0 kP0 kP1 kP2 kQ0 kQ1 kQ2
      clear EE
      go_wp2_with fail
      have sK : ∀ X, Blk X g 55 #[.slice (some ⟨r, 0, none⟩) n c] → (fun X : World => X.cell? ⟨g, 0, none⟩ = some (.slice (some ⟨r, 0, none⟩) n c)) X := fun X hX => hX.cell 0
      have m0 : r1.cell? ⟨r, k * 3, none⟩ = some (.int .i64 a) := HP.out 0 _ rfl
      have md0 : r1.drew.cell? ⟨r, k * 3, none⟩ = some (.int .i64 a) := m0
      have fm0 : r1.frozen? ⟨r, k * 3, none⟩ = false := HO1.out.frozenAt _
      have gm0 : r1.drew.frozen? ⟨r, k * 3, none⟩ = false := fm0
      have m1 : r1.cell? ⟨r, k * 3 + 1, none⟩ = some (.int .i64 d) := HP.out 1 _ rfl
      have md1 : r1.drew.cell? ⟨r, k * 3 + 1, none⟩ = some (.int .i64 d) := m1
      have fm1 : r1.frozen? ⟨r, k * 3 + 1, none⟩ = false := HO1.out.frozenAt _
      have gm1 : r1.drew.frozen? ⟨r, k * 3 + 1, none⟩ = false := fm1
      have m2 : r1.cell? ⟨r, k * 3 + 2, none⟩ = some (.int .i64 f) := HP.out 2 _ rfl
      have md2 : r1.drew.cell? ⟨r, k * 3 + 2, none⟩ = some (.int .i64 f) := m2
      have fm2 : r1.frozen? ⟨r, k * 3 + 2, none⟩ = false := HO1.out.frozenAt _
      have gm2 : r1.drew.frozen? ⟨r, k * 3 + 2, none⟩ = false := fm2
      have n0 : r1.cell? ⟨r, p * 3, none⟩ = some (.int .i64 q0) := HQ.out 0 _ rfl
      have nd0 : r1.drew.cell? ⟨r, p * 3, none⟩ = some (.int .i64 q0) := n0
      have fn0 : r1.frozen? ⟨r, p * 3, none⟩ = false := HO1.out.frozenAt _
      have gn0 : r1.drew.frozen? ⟨r, p * 3, none⟩ = false := fn0
      have n1 : r1.cell? ⟨r, p * 3 + 1, none⟩ = some (.int .i64 q1) := HQ.out 1 _ rfl
      have nd1 : r1.drew.cell? ⟨r, p * 3 + 1, none⟩ = some (.int .i64 q1) := n1
      have fn1 : r1.frozen? ⟨r, p * 3 + 1, none⟩ = false := HO1.out.frozenAt _
      have gn1 : r1.drew.frozen? ⟨r, p * 3 + 1, none⟩ = false := fn1
      have n2 : r1.cell? ⟨r, p * 3 + 2, none⟩ = some (.int .i64 q2) := HQ.out 2 _ rfl
      have nd2 : r1.drew.cell? ⟨r, p * 3 + 2, none⟩ = some (.int .i64 q2) := n2
      have fn2 : r1.frozen? ⟨r, p * 3 + 2, none⟩ = false := HO1.out.frozenAt _
      have gn2 : r1.drew.frozen? ⟨r, p * 3 + 2, none⟩ = false := fn2
      refine wp_region_held_drew (S := (fun X : World => X.cell? ⟨g, 0, none⟩ = some (.slice (some ⟨r, 0, none⟩) n c))) (by kernel_rfl) (sK _ HG1.out) (fun hHeld => ?_)
      clear hHeld
      refine wpAnyH_take (i := 0) (v := ?_) rfl (by kernel_rfl) (by kernel_rfl) (by kernel_rfl) (fun _ _ _ h => h) (Or.inl ⟨by rfl, ?_⟩) (sK _ HG1.out) ?_
      rotate_left
      · (intro wS hSw; (try dsimp only at hSw); go_simp; try with_reducible rfl)
      simp only [Act.put, List.getElem_toArray, List.getElem_cons_zero, List.getElem_cons_succ, List.setIfInBounds_toArray, List.set_cons_zero, List.set_cons_succ]
      refine wpAnyH_take (i := 1) (v := ?_) rfl (by kernel_rfl) (by kernel_rfl) (by kernel_rfl) (fun _ _ _ h => h) (Or.inl ⟨by rfl, ?_⟩) (sK _ HG1.out) ?_
      rotate_left
      · (intro wS hSw; (try dsimp only at hSw); go_simp; try with_reducible rfl)
      simp only [Act.put, List.getElem_toArray, List.getElem_cons_zero, List.getElem_cons_succ, List.setIfInBounds_toArray, List.set_cons_zero, List.set_cons_succ]
      refine wpAnyH_take (i := 2) (v := ?_) rfl (by kernel_rfl) (by kernel_rfl) (by kernel_rfl) (fun _ _ _ h => h) (Or.inl ⟨by rfl, ?_⟩) (sK _ HG1.out) ?_
      rotate_left
      · (intro wS hSw; (try dsimp only at hSw); go_simp; try with_reducible rfl)
      simp only [Act.put, List.getElem_toArray, List.getElem_cons_zero, List.getElem_cons_succ, List.setIfInBounds_toArray, List.set_cons_zero, List.set_cons_succ]
      refine wpAnyH_take (i := 3) (v := ?_) rfl (by kernel_rfl) (by kernel_rfl) (by kernel_rfl) (fun _ _ _ h => h) (Or.inl ⟨by rfl, ?_⟩) (sK _ HG1.out) ?_
      rotate_left
      · (intro wS hSw; (try dsimp only at hSw); go_simp; try with_reducible rfl)
      simp only [Act.put, List.getElem_toArray, List.getElem_cons_zero, List.getElem_cons_succ, List.setIfInBounds_toArray, List.set_cons_zero, List.set_cons_succ]
      refine wpAnyH_take (i := 4) (v := ?_) rfl (by kernel_rfl) (by kernel_rfl) (by kernel_rfl) (fun _ _ _ h => h) (Or.inl ⟨by rfl, ?_⟩) (sK _ HG1.out) ?_
      rotate_left
      · (intro wS hSw; (try dsimp only at hSw); go_simp; try with_reducible rfl)
      simp only [Act.put, List.getElem_toArray, List.getElem_cons_zero, List.getElem_cons_succ, List.setIfInBounds_toArray, List.set_cons_zero, List.set_cons_succ]
      refine wpAnyH_take (i := 5) (v := ?_) rfl (by kernel_rfl) (by kernel_rfl) (by kernel_rfl) (fun _ _ _ h => h) (Or.inl ⟨by rfl, ?_⟩) (sK _ HG1.out) ?_
      rotate_left
      · (intro wS hSw; (try dsimp only at hSw); go_simp; try with_reducible rfl)
      simp only [Act.put, List.getElem_toArray, List.getElem_cons_zero, List.getElem_cons_succ, List.setIfInBounds_toArray, List.set_cons_zero, List.set_cons_succ]
      refine wpAnyH_take (i := 6) (v := ?_) rfl (by kernel_rfl) (by kernel_rfl) (by kernel_rfl) (fun _ _ _ h => h) (Or.inl ⟨by rfl, ?_⟩) (sK _ HG1.out) ?_
      rotate_left
      · (intro wS hSw; (try dsimp only at hSw); go_simp; try with_reducible rfl)
      simp only [Act.put, List.getElem_toArray, List.getElem_cons_zero, List.getElem_cons_succ, List.setIfInBounds_toArray, List.set_cons_zero, List.set_cons_succ]
      refine wpAnyH_take (i := 7) (v := ?_) rfl (by kernel_rfl) (by kernel_rfl) (by kernel_rfl) (fun _ _ _ h => h) (Or.inl ⟨by rfl, ?_⟩) (sK _ HG1.out) ?_
      rotate_left
      · (intro wS hSw; (try dsimp only at hSw); go_simp; try with_reducible rfl)
      simp only [Act.put, List.getElem_toArray, List.getElem_cons_zero, List.getElem_cons_succ, List.setIfInBounds_toArray, List.set_cons_zero, List.set_cons_succ]
      refine wpAnyH_take (i := 8) (v := ?_) rfl (by kernel_rfl) (by kernel_rfl) (by kernel_rfl) (fun _ _ _ h => h) (Or.inl ⟨by rfl, ?_⟩) (sK _ HG1.out) ?_
      rotate_left
      · (intro wS hSw; (try dsimp only at hSw); go_simp; try with_reducible rfl)
      simp only [Act.put, List.getElem_toArray, List.getElem_cons_zero, List.getElem_cons_succ, List.setIfInBounds_toArray, List.set_cons_zero, List.set_cons_succ]
      refine wpAnyH_take (i := 9) (v := ?_) rfl (by kernel_rfl) (by kernel_rfl) (by kernel_rfl) (fun _ _ _ h => h) (Or.inl ⟨by rfl, ?_⟩) (sK _ HG1.out) ?_
      rotate_left
      · (intro wS hSw; (try dsimp only at hSw); go_simp; try with_reducible rfl)
      simp only [Act.put, List.getElem_toArray, List.getElem_cons_zero, List.getElem_cons_succ, List.setIfInBounds_toArray, List.set_cons_zero, List.set_cons_succ]
      refine wpAnyH_take (i := 10) (v := ?_) rfl (by kernel_rfl) (by kernel_rfl) (by kernel_rfl) (fun _ _ _ h => h) (Or.inl ⟨by rfl, ?_⟩) (sK _ HG1.out) ?_
      rotate_left
      · (intro wS hSw; (try dsimp only at hSw); go_simp; try with_reducible rfl)
      simp only [Act.put, List.getElem_toArray, List.getElem_cons_zero, List.getElem_cons_succ, List.setIfInBounds_toArray, List.set_cons_zero, List.set_cons_succ]
      refine wpAnyH_take (i := 11) (v := ?_) rfl (by kernel_rfl) (by kernel_rfl) (by kernel_rfl) (fun _ _ _ h => h) (Or.inl ⟨by rfl, ?_⟩) (sK _ HG1.out) ?_
      rotate_left
      · (intro wS hSw; (try dsimp only at hSw); go_simp; try with_reducible rfl)
      simp only [Act.put, List.getElem_toArray, List.getElem_cons_zero, List.getElem_cons_succ, List.setIfInBounds_toArray, List.set_cons_zero, List.set_cons_succ]
      refine wpAnyH_take (i := 12) (v := ?_) rfl (by kernel_rfl) (by kernel_rfl) (by kernel_rfl) (fun _ _ _ h => h) (Or.inl ⟨by rfl, ?_⟩) (sK _ HG1.out) ?_
      rotate_left
      · (intro wS hSw; (try dsimp only at hSw); go_simp; try with_reducible rfl)
      simp only [Act.put, List.getElem_toArray, List.getElem_cons_zero, List.getElem_cons_succ, List.setIfInBounds_toArray, List.set_cons_zero, List.set_cons_succ]
      refine wpAnyH_take (i := 13) (v := ?_) rfl (by kernel_rfl) (by kernel_rfl) (by kernel_rfl) (fun _ _ _ h => h) (Or.inl ⟨by rfl, ?_⟩) (sK _ HG1.out) ?_
      rotate_left
      · (intro wS hSw; (try dsimp only at hSw); go_simp; try with_reducible rfl)
      simp only [Act.put, List.getElem_toArray, List.getElem_cons_zero, List.getElem_cons_succ, List.setIfInBounds_toArray, List.set_cons_zero, List.set_cons_succ]
      refine wpAnyH_take (i := 14) (v := ?_) rfl (by kernel_rfl) (by kernel_rfl) (by kernel_rfl) (fun _ _ _ h => h) (Or.inl ⟨by rfl, ?_⟩) (sK _ HG1.out) ?_
      rotate_left
      · (intro wS hSw; (try dsimp only at hSw); go_simp; try with_reducible rfl)
      simp only [Act.put, List.getElem_toArray, List.getElem_cons_zero, List.getElem_cons_succ, List.setIfInBounds_toArray, List.set_cons_zero, List.set_cons_succ]
      refine wpAnyH_take (i := 15) (v := ?_) rfl (by kernel_rfl) (by kernel_rfl) (by kernel_rfl) (fun _ _ _ h => h) (Or.inl ⟨by rfl, ?_⟩) (sK _ HG1.out) ?_
      rotate_left
      · (intro wS hSw; (try dsimp only at hSw); go_simp; try with_reducible rfl)
      simp only [Act.put, List.getElem_toArray, List.getElem_cons_zero, List.getElem_cons_succ, List.setIfInBounds_toArray, List.set_cons_zero, List.set_cons_succ]
      refine wpAnyH_take (i := 17) (v := ?_) rfl (by kernel_rfl) (by kernel_rfl) (by kernel_rfl) (fun _ _ _ h => h) (Or.inl ⟨by rfl, ?_⟩) (sK _ HG1.out) ?_
      rotate_left
      · (intro wS hSw; (try dsimp only at hSw); go_simp; try with_reducible rfl)
      simp only [Act.put, List.getElem_toArray, List.getElem_cons_zero, List.getElem_cons_succ, List.setIfInBounds_toArray, List.set_cons_zero, List.set_cons_succ]
      refine wpAnyH_take (i := 18) (v := ?_) rfl (by kernel_rfl) (by kernel_rfl) (by kernel_rfl) (fun _ _ _ h => h) (Or.inl ⟨by rfl, ?_⟩) (sK _ HG1.out) ?_
      rotate_left
      · (intro wS hSw; (try dsimp only at hSw); go_simp; try with_reducible rfl)
      simp only [Act.put, List.getElem_toArray, List.getElem_cons_zero, List.getElem_cons_succ, List.setIfInBounds_toArray, List.set_cons_zero, List.set_cons_succ]
      refine wpAnyH_take (i := 19) (v := ?_) rfl (by kernel_rfl) (by kernel_rfl) (by kernel_rfl) (fun _ _ _ h => h) (Or.inl ⟨by rfl, ?_⟩) (sK _ HG1.out) ?_
      rotate_left
      · (intro wS hSw; (try dsimp only at hSw); go_simp; try with_reducible rfl)
      simp only [Act.put, List.getElem_toArray, List.getElem_cons_zero, List.getElem_cons_succ, List.setIfInBounds_toArray, List.set_cons_zero, List.set_cons_succ]
      refine wpAnyH_take (i := 20) (v := ?_) rfl (by kernel_rfl) (by kernel_rfl) (by kernel_rfl) (fun _ _ _ h => h) (Or.inl ⟨by rfl, ?_⟩) (sK _ HG1.out) ?_
      rotate_left
      · (intro wS hSw; (try dsimp only at hSw); go_simp; try with_reducible rfl)
      simp only [Act.put, List.getElem_toArray, List.getElem_cons_zero, List.getElem_cons_succ, List.setIfInBounds_toArray, List.set_cons_zero, List.set_cons_succ]
      refine wpAnyH_take (i := 21) (v := ?_) rfl (by kernel_rfl) (by kernel_rfl) (by kernel_rfl) (fun _ _ _ h => h) (Or.inl ⟨by rfl, ?_⟩) (sK _ HG1.out) ?_
      rotate_left
      · (intro wS hSw; (try dsimp only at hSw); go_simp; try with_reducible rfl)
      simp only [Act.put, List.getElem_toArray, List.getElem_cons_zero, List.getElem_cons_succ, List.setIfInBounds_toArray, List.set_cons_zero, List.set_cons_succ]
      refine wpAnyH_take (i := 22) (v := ?_) rfl (by kernel_rfl) (by kernel_rfl) (by kernel_rfl) (fun _ _ _ h => h) (Or.inl ⟨by rfl, ?_⟩) (sK _ HG1.out) ?_
      rotate_left
      · (intro wS hSw; (try dsimp only at hSw); go_simp; try with_reducible rfl)
      simp only [Act.put, List.getElem_toArray, List.getElem_cons_zero, List.getElem_cons_succ, List.setIfInBounds_toArray, List.set_cons_zero, List.set_cons_succ]
      refine wpAnyH_ready (rs := [16, 23]) (by kernel_rfl) (by simp) ?_
      refine AllReadyH.cons rfl (fun K hK => ?_) (AllReadyH.cons rfl (fun K hK => ?_) AllReadyH.nil)
      · go_simp
        refine hK.out _ _ (sK _ HG1.out) (fun hHeld => ?_)
        clear hK K hHeld
        try simp only [Act.put, List.getElem_toArray, List.getElem_cons_zero, List.getElem_cons_succ, List.setIfInBounds_toArray, List.set_cons_zero, List.set_cons_succ]
        refine wpAnyH_ready (rs := [23]) (by kernel_rfl) (by simp) ?_
        refine AllReadyH.cons rfl (fun K hK => ?_) AllReadyH.nil
        go_simp
        refine hK.out _ _ (sK _ HG1.out) (fun hHeld => ?_)
        clear hK K hHeld
        try simp only [Act.put, List.getElem_toArray, List.getElem_cons_zero, List.getElem_cons_succ, List.setIfInBounds_toArray, List.set_cons_zero, List.set_cons_succ]
        refine wpAnyH_take (i := 24) (v := ?_) rfl (by kernel_rfl) (by kernel_rfl) (by kernel_rfl) (fun _ _ _ h => h) (Or.inl ⟨by rfl, ?_⟩) (sK _ HG1.out) ?_
        rotate_left
        · (intro wS hSw; (try dsimp only at hSw); go_simp; try with_reducible rfl)
        simp only [Act.put, List.getElem_toArray, List.getElem_cons_zero, List.getElem_cons_succ, List.setIfInBounds_toArray, List.set_cons_zero, List.set_cons_succ]
        refine wpAnyH_ready (rs := [25]) (by kernel_rfl) (by simp) ?_
        refine AllReadyH.cons rfl (fun K hK => ?_) AllReadyH.nil
        go_simp
        clear m0 m1 m2 n0 n1 n2 md0 md1 md2 nd0 nd1 nd2 fm0 fm1 fm2 fn0 fn1 fn2 gm0 gm1 gm2 gn0 gn1 gn2
        have hO2 := row_set (i := k) (x := q0) (y := q1) (z := q2) (by simp [HN.out]) hk HO1.out
        have hG2 : Blk (((r1.setCell ⟨r, k * 3, none⟩ (.int .i64 q0)).setCell ⟨r, k * 3 + 1, none⟩ (.int .i64 q1)).setCell ⟨r, k * 3 + 2, none⟩ (.int .i64 q2)).drew g 55 #[.slice (some ⟨r, 0, none⟩) n c] := (((HG1.out.far (p := ⟨r, k * 3, none⟩) hne _).far (p := ⟨r, k * 3 + 1, none⟩) hne _).far (p := ⟨r, k * 3 + 2, none⟩) hne _)
        have hF2 : Fr (fun x => x = r) w (((r1.setCell ⟨r, k * 3, none⟩ (.int .i64 q0)).setCell ⟨r, k * 3 + 1, none⟩ (.int .i64 q1)).setCell ⟨r, k * 3 + 2, none⟩ (.int .i64 q2)).drew := (((FF1.out.setCell (Or.inr rfl) _).setCell (Or.inr rfl) _).setCell (Or.inr rfl) _).drew
        have hQ2 : At (((r1.setCell ⟨r, k * 3, none⟩ (.int .i64 q0)).setCell ⟨r, k * 3 + 1, none⟩ (.int .i64 q1)).setCell ⟨r, k * 3 + 2, none⟩ (.int .i64 q2)).drew r (p * 3) #[.int .i64 q0, .int .i64 q1, .int .i64 q2] := at_apart (by have := HPK.out; omega) HQ.out
        obtain ⟨r3, hr3⟩ : ∃ V, (((r1.setCell ⟨r, k * 3, none⟩ (.int .i64 q0)).setCell ⟨r, k * 3 + 1, none⟩ (.int .i64 q1)).setCell ⟨r, k * 3 + 2, none⟩ (.int .i64 q2)).drew = V := ⟨_, rfl⟩
        rw [hr3] at hO2 hG2 hF2 hQ2 ⊢
        clear hr3
        have HO2 := Lib.hid hO2; have HG2 := Lib.hid hG2; have FF2 := Lib.hid hF2
        have x0 : r3.cell? ⟨r, p * 3, none⟩ = some (.int .i64 q0) := hQ2 0 _ rfl
        have y0 : r3.frozen? ⟨r, p * 3, none⟩ = false := hO2.frozenAt _
        have x1 : r3.cell? ⟨r, p * 3 + 1, none⟩ = some (.int .i64 q1) := hQ2 1 _ rfl
        have y1 : r3.frozen? ⟨r, p * 3 + 1, none⟩ = false := hO2.frozenAt _
        have x2 : r3.cell? ⟨r, p * 3 + 2, none⟩ = some (.int .i64 q2) := hQ2 2 _ rfl
        have y2 : r3.frozen? ⟨r, p * 3 + 2, none⟩ = false := hO2.frozenAt _
        clear hO2 hG2 hF2 hQ2
        refine hK.out _ _ (sK _ HG2.out) (fun hHeld => ?_)
        clear hK K hHeld
        try simp only [Act.put, List.getElem_toArray, List.getElem_cons_zero, List.getElem_cons_succ, List.setIfInBounds_toArray, List.set_cons_zero, List.set_cons_succ]
        refine wpAnyH_take (i := 26) (v := ?_) rfl (by kernel_rfl) (by kernel_rfl) (by kernel_rfl) (fun _ _ _ h => h) (Or.inl ⟨by rfl, ?_⟩) (sK _ HG2.out) ?_
        rotate_left
        · (intro wS hSw; (try dsimp only at hSw); go_simp; try with_reducible rfl)
        simp only [Act.put, List.getElem_toArray, List.getElem_cons_zero, List.getElem_cons_succ, List.setIfInBounds_toArray, List.set_cons_zero, List.set_cons_succ]
        refine wpAnyH_ready (rs := [27]) (by kernel_rfl) (by simp) ?_
        refine AllReadyH.cons rfl (fun K hK => ?_) AllReadyH.nil
        go_simp
        clear x0 x1 x2 y0 y1 y2
        have hO3 := row_set (i := p) (x := a) (y := d) (z := f) (by simp [HN.out]) hpn HO2.out
        have hG3 : Blk (((r3.setCell ⟨r, p * 3, none⟩ (.int .i64 a)).setCell ⟨r, p * 3 + 1, none⟩ (.int .i64 d)).setCell ⟨r, p * 3 + 2, none⟩ (.int .i64 f)) g 55 #[.slice (some ⟨r, 0, none⟩) n c] := (((HG2.out.far (p := ⟨r, p * 3, none⟩) hne _).far (p := ⟨r, p * 3 + 1, none⟩) hne _).far (p := ⟨r, p * 3 + 2, none⟩) hne _)
        have hF3 : Fr (fun x => x = r) w (((r3.setCell ⟨r, p * 3, none⟩ (.int .i64 a)).setCell ⟨r, p * 3 + 1, none⟩ (.int .i64 d)).setCell ⟨r, p * 3 + 2, none⟩ (.int .i64 f)) := ((FF2.out.setCell (Or.inr rfl) _).setCell (Or.inr rfl) _).setCell (Or.inr rfl) _
        replace hO3 : World.ownsRow (((r3.setCell ⟨r, p * 3, none⟩ (.int .i64 a)).setCell ⟨r, p * 3 + 1, none⟩ (.int .i64 d)).setCell ⟨r, p * 3 + 2, none⟩ (.int .i64 f)) B 24 3 (.slice (some ⟨r, 0, none⟩) n c) n _ := hO3
        obtain ⟨r6, hr6⟩ : ∃ V, (((r3.setCell ⟨r, p * 3, none⟩ (.int .i64 a)).setCell ⟨r, p * 3 + 1, none⟩ (.int .i64 d)).setCell ⟨r, p * 3 + 2, none⟩ (.int .i64 f)) = V := ⟨_, rfl⟩
        rw [hr6] at hO3 hG3 hF3 ⊢
        clear hr6
        have HO3 := Lib.hid hO3; have HG3 := Lib.hid hG3; have FF3 := Lib.hid hF3
        clear hO3 hG3 hF3
        refine hK.out _ _ (sK _ HG3.out) (fun hHeld => ?_)
        clear hK K hHeld
        try simp only [Act.put, List.getElem_toArray, List.getElem_cons_zero, List.getElem_cons_succ, List.setIfInBounds_toArray, List.set_cons_zero, List.set_cons_succ]
        refine wpAnyH_done (by kernel_rfl) ?_ _
        have HOW : Hid (r6.ownsRow B 24 3 (.slice (some ⟨r, 0, none⟩) n c) n (rowM 3 (zE (swE M k p)) n)) := Lib.hid (by have := HO3.out; unfold swE; rw [HE1.out, HE2.out]; exact this)
        have HIW := Lib.hid (rise_step HI.out hkp2 (by rw [HN.out]; exact hk) HPK.out.1 (by rw [HE1.out, HE2.out, ← ltb_iff]; exact hlt))
        have HPW := Lib.hid ((swE_perm (by rw [HN.out]; exact hk) (by rw [HN.out]; exact hpn)).trans HP'.out)
        go_wp2_with fail
        go_roundw
        case rel => exact ⟨p, swE M k p, rfl, hpn, Lib.hid (by rw [swE_len]; exact HN.out), HPW, HIW, HOW, FF3⟩
        case measure => have := HPK.out; simp [intOf]; omega
      · go_simp
        refine hK.out _ _ (sK _ HG1.out) (fun hHeld => ?_)
        clear hK K hHeld
        try simp only [Act.put, List.getElem_toArray, List.getElem_cons_zero, List.getElem_cons_succ, List.setIfInBounds_toArray, List.set_cons_zero, List.set_cons_succ]
        refine wpAnyH_ready (rs := [16]) (by kernel_rfl) (by simp) ?_
        refine AllReadyH.cons rfl (fun K hK => ?_) AllReadyH.nil
        go_simp
        refine hK.out _ _ (sK _ HG1.out) (fun hHeld => ?_)
        clear hK K hHeld
        try simp only [Act.put, List.getElem_toArray, List.getElem_cons_zero, List.getElem_cons_succ, List.setIfInBounds_toArray, List.set_cons_zero, List.set_cons_succ]
        refine wpAnyH_take (i := 24) (v := ?_) rfl (by kernel_rfl) (by kernel_rfl) (by kernel_rfl) (fun _ _ _ h => h) (Or.inl ⟨by rfl, ?_⟩) (sK _ HG1.out) ?_
        rotate_left
        · (intro wS hSw; (try dsimp only at hSw); go_simp; try with_reducible rfl)
        simp only [Act.put, List.getElem_toArray, List.getElem_cons_zero, List.getElem_cons_succ, List.setIfInBounds_toArray, List.set_cons_zero, List.set_cons_succ]
        refine wpAnyH_ready (rs := [25]) (by kernel_rfl) (by simp) ?_
        refine AllReadyH.cons rfl (fun K hK => ?_) AllReadyH.nil
        go_simp
        clear m0 m1 m2 n0 n1 n2 md0 md1 md2 nd0 nd1 nd2 fm0 fm1 fm2 fn0 fn1 fn2 gm0 gm1 gm2 gn0 gn1 gn2
        have hO2 := row_set (i := k) (x := q0) (y := q1) (z := q2) (by simp [HN.out]) hk HO1.out
        have hG2 : Blk (((r1.setCell ⟨r, k * 3, none⟩ (.int .i64 q0)).setCell ⟨r, k * 3 + 1, none⟩ (.int .i64 q1)).setCell ⟨r, k * 3 + 2, none⟩ (.int .i64 q2)).drew g 55 #[.slice (some ⟨r, 0, none⟩) n c] := (((HG1.out.far (p := ⟨r, k * 3, none⟩) hne _).far (p := ⟨r, k * 3 + 1, none⟩) hne _).far (p := ⟨r, k * 3 + 2, none⟩) hne _)
        have hF2 : Fr (fun x => x = r) w (((r1.setCell ⟨r, k * 3, none⟩ (.int .i64 q0)).setCell ⟨r, k * 3 + 1, none⟩ (.int .i64 q1)).setCell ⟨r, k * 3 + 2, none⟩ (.int .i64 q2)).drew := (((FF1.out.setCell (Or.inr rfl) _).setCell (Or.inr rfl) _).setCell (Or.inr rfl) _).drew
        have hQ2 : At (((r1.setCell ⟨r, k * 3, none⟩ (.int .i64 q0)).setCell ⟨r, k * 3 + 1, none⟩ (.int .i64 q1)).setCell ⟨r, k * 3 + 2, none⟩ (.int .i64 q2)).drew r (p * 3) #[.int .i64 q0, .int .i64 q1, .int .i64 q2] := at_apart (by have := HPK.out; omega) HQ.out
        obtain ⟨r3, hr3⟩ : ∃ V, (((r1.setCell ⟨r, k * 3, none⟩ (.int .i64 q0)).setCell ⟨r, k * 3 + 1, none⟩ (.int .i64 q1)).setCell ⟨r, k * 3 + 2, none⟩ (.int .i64 q2)).drew = V := ⟨_, rfl⟩
        rw [hr3] at hO2 hG2 hF2 hQ2 ⊢
        clear hr3
        have HO2 := Lib.hid hO2; have HG2 := Lib.hid hG2; have FF2 := Lib.hid hF2
        have x0 : r3.cell? ⟨r, p * 3, none⟩ = some (.int .i64 q0) := hQ2 0 _ rfl
        have y0 : r3.frozen? ⟨r, p * 3, none⟩ = false := hO2.frozenAt _
        have x1 : r3.cell? ⟨r, p * 3 + 1, none⟩ = some (.int .i64 q1) := hQ2 1 _ rfl
        have y1 : r3.frozen? ⟨r, p * 3 + 1, none⟩ = false := hO2.frozenAt _
        have x2 : r3.cell? ⟨r, p * 3 + 2, none⟩ = some (.int .i64 q2) := hQ2 2 _ rfl
        have y2 : r3.frozen? ⟨r, p * 3 + 2, none⟩ = false := hO2.frozenAt _
        clear hO2 hG2 hF2 hQ2
        refine hK.out _ _ (sK _ HG2.out) (fun hHeld => ?_)
        clear hK K hHeld
        try simp only [Act.put, List.getElem_toArray, List.getElem_cons_zero, List.getElem_cons_succ, List.setIfInBounds_toArray, List.set_cons_zero, List.set_cons_succ]
        refine wpAnyH_take (i := 26) (v := ?_) rfl (by kernel_rfl) (by kernel_rfl) (by kernel_rfl) (fun _ _ _ h => h) (Or.inl ⟨by rfl, ?_⟩) (sK _ HG2.out) ?_
        rotate_left
        · (intro wS hSw; (try dsimp only at hSw); go_simp; try with_reducible rfl)
        simp only [Act.put, List.getElem_toArray, List.getElem_cons_zero, List.getElem_cons_succ, List.setIfInBounds_toArray, List.set_cons_zero, List.set_cons_succ]
        refine wpAnyH_ready (rs := [27]) (by kernel_rfl) (by simp) ?_
        refine AllReadyH.cons rfl (fun K hK => ?_) AllReadyH.nil
        go_simp
        clear x0 x1 x2 y0 y1 y2
        have hO3 := row_set (i := p) (x := a) (y := d) (z := f) (by simp [HN.out]) hpn HO2.out
        have hG3 : Blk (((r3.setCell ⟨r, p * 3, none⟩ (.int .i64 a)).setCell ⟨r, p * 3 + 1, none⟩ (.int .i64 d)).setCell ⟨r, p * 3 + 2, none⟩ (.int .i64 f)) g 55 #[.slice (some ⟨r, 0, none⟩) n c] := (((HG2.out.far (p := ⟨r, p * 3, none⟩) hne _).far (p := ⟨r, p * 3 + 1, none⟩) hne _).far (p := ⟨r, p * 3 + 2, none⟩) hne _)
        have hF3 : Fr (fun x => x = r) w (((r3.setCell ⟨r, p * 3, none⟩ (.int .i64 a)).setCell ⟨r, p * 3 + 1, none⟩ (.int .i64 d)).setCell ⟨r, p * 3 + 2, none⟩ (.int .i64 f)) := ((FF2.out.setCell (Or.inr rfl) _).setCell (Or.inr rfl) _).setCell (Or.inr rfl) _
        replace hO3 : World.ownsRow (((r3.setCell ⟨r, p * 3, none⟩ (.int .i64 a)).setCell ⟨r, p * 3 + 1, none⟩ (.int .i64 d)).setCell ⟨r, p * 3 + 2, none⟩ (.int .i64 f)) B 24 3 (.slice (some ⟨r, 0, none⟩) n c) n _ := hO3
        obtain ⟨r6, hr6⟩ : ∃ V, (((r3.setCell ⟨r, p * 3, none⟩ (.int .i64 a)).setCell ⟨r, p * 3 + 1, none⟩ (.int .i64 d)).setCell ⟨r, p * 3 + 2, none⟩ (.int .i64 f)) = V := ⟨_, rfl⟩
        rw [hr6] at hO3 hG3 hF3 ⊢
        clear hr6
        have HO3 := Lib.hid hO3; have HG3 := Lib.hid hG3; have FF3 := Lib.hid hF3
        clear hO3 hG3 hF3
        refine hK.out _ _ (sK _ HG3.out) (fun hHeld => ?_)
        clear hK K hHeld
        try simp only [Act.put, List.getElem_toArray, List.getElem_cons_zero, List.getElem_cons_succ, List.setIfInBounds_toArray, List.set_cons_zero, List.set_cons_succ]
        refine wpAnyH_done (by kernel_rfl) ?_ _
        have HOW : Hid (r6.ownsRow B 24 3 (.slice (some ⟨r, 0, none⟩) n c) n (rowM 3 (zE (swE M k p)) n)) := Lib.hid (by have := HO3.out; unfold swE; rw [HE1.out, HE2.out]; exact this)
        have HIW := Lib.hid (rise_step HI.out hkp2 (by rw [HN.out]; exact hk) HPK.out.1 (by rw [HE1.out, HE2.out, ← ltb_iff]; exact hlt))
        have HPW := Lib.hid ((swE_perm (by rw [HN.out]; exact hk) (by rw [HN.out]; exact hpn)).trans HP'.out)
        go_wp2_with fail
        go_roundw
        case rel => exact ⟨p, swE M k p, rfl, hpn, Lib.hid (by rw [swE_len]; exact HN.out), HPW, HIW, HOW, FF3⟩
        case measure => have := HPK.out; simp [intOf]; omega
    · have kH0 : wr.cell? ⟨g, 0, none⟩ = some (.slice (some ⟨r, 0, none⟩) n c) := HH.out.cell 0
      have kP0 : wr.cell? ⟨r, k * 3, none⟩ = some (.int .i64 a) := HP.out 0 _ rfl
      have kP1 : wr.cell? ⟨r, k * 3 + 1, none⟩ = some (.int .i64 d) := HP.out 1 _ rfl
      have kP2 : wr.cell? ⟨r, k * 3 + 2, none⟩ = some (.int .i64 f) := HP.out 2 _ rfl
      have kQ0 : wr.cell? ⟨r, p * 3, none⟩ = some (.int .i64 q0) := HQ.out 0 _ rfl
      have kQ1 : wr.cell? ⟨r, p * 3 + 1, none⟩ = some (.int .i64 q1) := HQ.out 1 _ rfl
      have kQ2 : wr.cell? ⟨r, p * 3 + 2, none⟩ = some (.int .i64 q2) := HQ.out 2 _ rfl
      go_wp2_with fail
      have sK : ∀ X, Blk X (g) 55 #[.slice (some ⟨r, 0, none⟩) n c] → At X r (k * 3) #[.int .i64 a, .int .i64 d, .int .i64 f] → At X r (p * 3) #[.int .i64 q0, .int .i64 q1, .int .i64 q2] → (fun X => X.cell? ⟨g, 0, none⟩ = some (.slice (some ⟨r, 0, none⟩) n c) ∧ X.cell? ⟨r, k * 3, none⟩ = some (.int .i64 a) ∧ X.cell? ⟨r, k * 3 + 1, none⟩ = some (.int .i64 d) ∧ X.cell? ⟨r, k * 3 + 2, none⟩ = some (.int .i64 f) ∧ X.cell? ⟨r, p * 3, none⟩ = some (.int .i64 q0) ∧ X.cell? ⟨r, p * 3 + 1, none⟩ = some (.int .i64 q1) ∧ X.cell? ⟨r, p * 3 + 2, none⟩ = some (.int .i64 q2)) X := fun X hH hP hQ => ⟨hH.cell 0, hP 0 _ rfl, hP 1 _ rfl, hP 2 _ rfl, hQ 0 _ rfl, hQ 1 _ rfl, hQ 2 _ rfl⟩
      have LH0 := Lib.hid (HH.out.drew)
      have LP0 := Lib.hid (HP.out.drew)
      have LQ0 := Lib.hid (HQ.out.drew)
      have E0 := Lib.hid (EE.out.drew)
      clear kH0 kP0 kP1 kP2 kQ0 kQ1 kQ2
      refine wp_region_held_drew (S := (fun X => X.cell? ⟨g, 0, none⟩ = some (.slice (some ⟨r, 0, none⟩) n c) ∧ X.cell? ⟨r, k * 3, none⟩ = some (.int .i64 a) ∧ X.cell? ⟨r, k * 3 + 1, none⟩ = some (.int .i64 d) ∧ X.cell? ⟨r, k * 3 + 2, none⟩ = some (.int .i64 f) ∧ X.cell? ⟨r, p * 3, none⟩ = some (.int .i64 q0) ∧ X.cell? ⟨r, p * 3 + 1, none⟩ = some (.int .i64 q1) ∧ X.cell? ⟨r, p * 3 + 2, none⟩ = some (.int .i64 q2))) (by kernel_rfl) (sK _ LH0.out LP0.out LQ0.out) (fun hHeld => ?_)
      clear hHeld
      refine wpAnyH_take (i := 0) (v := ?_) rfl (by kernel_rfl) (by kernel_rfl) (by kernel_rfl) (fun _ _ _ h => h) (Or.inl ⟨by rfl, ?_⟩) (sK _ LH0.out LP0.out LQ0.out) ?_
      rotate_left
      · (intro wS hSw; (try dsimp only at hSw); go_simp; try with_reducible rfl)
      simp only [Act.put, List.getElem_toArray, List.getElem_cons_zero, List.getElem_cons_succ, List.setIfInBounds_toArray, List.set_cons_zero, List.set_cons_succ]
      refine wpAnyH_take (i := 1) (v := ?_) rfl (by kernel_rfl) (by kernel_rfl) (by kernel_rfl) (fun _ _ _ h => h) (Or.inl ⟨by rfl, ?_⟩) (sK _ LH0.out LP0.out LQ0.out) ?_
      rotate_left
      · (intro wS hSw; (try dsimp only at hSw); go_simp; try with_reducible rfl)
      simp only [Act.put, List.getElem_toArray, List.getElem_cons_zero, List.getElem_cons_succ, List.setIfInBounds_toArray, List.set_cons_zero, List.set_cons_succ]
      refine wpAnyH_take (i := 2) (v := ?_) rfl (by kernel_rfl) (by kernel_rfl) (by kernel_rfl) (fun _ _ _ h => h) (Or.inl ⟨by rfl, ?_⟩) (sK _ LH0.out LP0.out LQ0.out) ?_
      rotate_left
      · (intro wS hSw; (try dsimp only at hSw); go_simp; try with_reducible rfl)
      simp only [Act.put, List.getElem_toArray, List.getElem_cons_zero, List.getElem_cons_succ, List.setIfInBounds_toArray, List.set_cons_zero, List.set_cons_succ]
      refine wpAnyH_take (i := 3) (v := ?_) rfl (by kernel_rfl) (by kernel_rfl) (by kernel_rfl) (fun _ _ _ h => h) (Or.inl ⟨by rfl, ?_⟩) (sK _ LH0.out LP0.out LQ0.out) ?_
      rotate_left
      · (intro wS hSw; (try dsimp only at hSw); go_simp; try with_reducible rfl)
      simp only [Act.put, List.getElem_toArray, List.getElem_cons_zero, List.getElem_cons_succ, List.setIfInBounds_toArray, List.set_cons_zero, List.set_cons_succ]
      refine wpAnyH_take (i := 4) (v := ?_) rfl (by kernel_rfl) (by kernel_rfl) (by kernel_rfl) (fun _ _ _ h => h) (Or.inl ⟨by rfl, ?_⟩) (sK _ LH0.out LP0.out LQ0.out) ?_
      rotate_left
      · (intro wS hSw; (try dsimp only at hSw); go_simp; try with_reducible rfl)
      simp only [Act.put, List.getElem_toArray, List.getElem_cons_zero, List.getElem_cons_succ, List.setIfInBounds_toArray, List.set_cons_zero, List.set_cons_succ]
      refine wpAnyH_take (i := 5) (v := ?_) rfl (by kernel_rfl) (by kernel_rfl) (by kernel_rfl) (fun _ _ _ h => h) (Or.inl ⟨by rfl, ?_⟩) (sK _ LH0.out LP0.out LQ0.out) ?_
      rotate_left
      · (intro wS hSw; (try dsimp only at hSw); go_simp; try with_reducible rfl)
      simp only [Act.put, List.getElem_toArray, List.getElem_cons_zero, List.getElem_cons_succ, List.setIfInBounds_toArray, List.set_cons_zero, List.set_cons_succ]
      refine wpAnyH_take (i := 6) (v := ?_) rfl (by kernel_rfl) (by kernel_rfl) (by kernel_rfl) (fun _ _ _ h => h) (Or.inl ⟨by rfl, ?_⟩) (sK _ LH0.out LP0.out LQ0.out) ?_
      rotate_left
      · (intro wS hSw; (try dsimp only at hSw); go_simp; try with_reducible rfl)
      simp only [Act.put, List.getElem_toArray, List.getElem_cons_zero, List.getElem_cons_succ, List.setIfInBounds_toArray, List.set_cons_zero, List.set_cons_succ]
      refine wpAnyH_take (i := 7) (v := ?_) rfl (by kernel_rfl) (by kernel_rfl) (by kernel_rfl) (fun _ _ _ h => h) (Or.inl ⟨by rfl, ?_⟩) (sK _ LH0.out LP0.out LQ0.out) ?_
      rotate_left
      · (intro wS hSw; (try dsimp only at hSw); go_simp; try with_reducible rfl)
      simp only [Act.put, List.getElem_toArray, List.getElem_cons_zero, List.getElem_cons_succ, List.setIfInBounds_toArray, List.set_cons_zero, List.set_cons_succ]
      refine wpAnyH_take (i := 8) (v := ?_) rfl (by kernel_rfl) (by kernel_rfl) (by kernel_rfl) (fun _ _ _ h => h) (Or.inl ⟨by rfl, ?_⟩) (sK _ LH0.out LP0.out LQ0.out) ?_
      rotate_left
      · (intro wS hSw; (try dsimp only at hSw); go_simp; try with_reducible rfl)
      simp only [Act.put, List.getElem_toArray, List.getElem_cons_zero, List.getElem_cons_succ, List.setIfInBounds_toArray, List.set_cons_zero, List.set_cons_succ]
      refine wpAnyH_take (i := 9) (v := ?_) rfl (by kernel_rfl) (by kernel_rfl) (by kernel_rfl) (fun _ _ _ h => h) (Or.inl ⟨by rfl, ?_⟩) (sK _ LH0.out LP0.out LQ0.out) ?_
      rotate_left
      · (intro wS hSw; (try dsimp only at hSw); go_simp; try with_reducible rfl)
      simp only [Act.put, List.getElem_toArray, List.getElem_cons_zero, List.getElem_cons_succ, List.setIfInBounds_toArray, List.set_cons_zero, List.set_cons_succ]
      refine wpAnyH_take (i := 10) (v := ?_) rfl (by kernel_rfl) (by kernel_rfl) (by kernel_rfl) (fun _ _ _ h => h) (Or.inl ⟨by rfl, ?_⟩) (sK _ LH0.out LP0.out LQ0.out) ?_
      rotate_left
      · (intro wS hSw; (try dsimp only at hSw); go_simp; try with_reducible rfl)
      simp only [Act.put, List.getElem_toArray, List.getElem_cons_zero, List.getElem_cons_succ, List.setIfInBounds_toArray, List.set_cons_zero, List.set_cons_succ]
      refine wpAnyH_take (i := 11) (v := ?_) rfl (by kernel_rfl) (by kernel_rfl) (by kernel_rfl) (fun _ _ _ h => h) (Or.inl ⟨by rfl, ?_⟩) (sK _ LH0.out LP0.out LQ0.out) ?_
      rotate_left
      · (intro wS hSw; (try dsimp only at hSw); go_simp; try with_reducible rfl)
      simp only [Act.put, List.getElem_toArray, List.getElem_cons_zero, List.getElem_cons_succ, List.setIfInBounds_toArray, List.set_cons_zero, List.set_cons_succ]
      refine wpAnyH_take (i := 12) (v := ?_) rfl (by kernel_rfl) (by kernel_rfl) (by kernel_rfl) (fun _ _ _ h => h) (Or.inl ⟨by rfl, ?_⟩) (sK _ LH0.out LP0.out LQ0.out) ?_
      rotate_left
      · (intro wS hSw; (try dsimp only at hSw); go_simp; try with_reducible rfl)
      simp only [Act.put, List.getElem_toArray, List.getElem_cons_zero, List.getElem_cons_succ, List.setIfInBounds_toArray, List.set_cons_zero, List.set_cons_succ]
      refine wpAnyH_take (i := 13) (v := ?_) rfl (by kernel_rfl) (by kernel_rfl) (by kernel_rfl) (fun _ _ _ h => h) (Or.inl ⟨by rfl, ?_⟩) (sK _ LH0.out LP0.out LQ0.out) ?_
      rotate_left
      · (intro wS hSw; (try dsimp only at hSw); go_simp; try with_reducible rfl)
      simp only [Act.put, List.getElem_toArray, List.getElem_cons_zero, List.getElem_cons_succ, List.setIfInBounds_toArray, List.set_cons_zero, List.set_cons_succ]
      refine wpAnyH_ready (rs := [14]) (by kernel_rfl) (by simp) ?_
      refine AllReadyH.cons rfl (fun K hK => ?_) AllReadyH.nil
      go_simp
      refine (less_any (a, d, f) (q0, q1, q2) _).mono ?_
      rintro e r1 ⟨rfl, hb⟩
      have LH1 := Lib.hid (Blk.next (w := wr.drew) LH0.out hb)
      have LP1 := Lib.hid (At.next (w := wr.drew) LP0.out hb)
      have LQ1 := Lib.hid (At.next (w := wr.drew) LQ0.out hb)
      have E1 := Lib.hid (E0.out.trans (hb.mono E0.out.size))
      rw [hlt]
      clear hb
      go_wp2_with fail
      refine hK.out _ _ (sK _ LH1.out LP1.out LQ1.out) (fun hHeld => ?_)
      clear hK K hHeld
      try simp only [Act.put, List.getElem_toArray, List.getElem_cons_zero, List.getElem_cons_succ, List.setIfInBounds_toArray, List.set_cons_zero, List.set_cons_succ]
      refine wpAnyH_take (i := 15) (v := ?_) rfl (by kernel_rfl) (by kernel_rfl) (by kernel_rfl) (fun _ _ _ h => h) (Or.inl ⟨by rfl, ?_⟩) (sK _ LH1.out LP1.out LQ1.out) ?_
      rotate_left
      · (intro wS hSw; (try dsimp only at hSw); go_simp; try with_reducible rfl)
      simp only [Act.put, List.getElem_toArray, List.getElem_cons_zero, List.getElem_cons_succ, List.setIfInBounds_toArray, List.set_cons_zero, List.set_cons_succ]
      refine wpAnyH_done (by kernel_rfl) ?_ _
      have HO1 := Lib.hid (ownM_below HO.out E1.out)
      have FF1 := Lib.hid (FF.out.below E1.out)
      go_wp2_with fail
      go_end0
      exact ⟨rfl, M, HP'.out, rise_done HI.out (fun _ => by rw [HPK.out.1, HE1.out, HE2.out, ← ltb_iff, hlt]; simp), HO1.out, FF1.out⟩
end Go.Proofs.Ytobeppajomhfjaa
