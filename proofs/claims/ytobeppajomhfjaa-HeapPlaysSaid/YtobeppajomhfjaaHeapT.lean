/- A heap of entries: Until. -/
import Derived.Test.YtobeppajomhfjaaHeapS
import Derived.WalkKit
import Derived.IntWalk
import Derived.Lib.Hide
import Derived.WalkSpells
import Derived.WalkLawsBesides
import Derived.OwnWalk
import Derived.BigRegion
import Derived.Deep.LoopGhost
import Derived.Deep.RegionHeld3
import Derived.Deep.QuietTactic
import Derived.BigQuiet
import Derived.Laws.CopyOwn
import Derived.Laws.MakeOwn
import Derived.Laws.OwnMore
import Derived.Laws.AppendOwnNone
namespace Go.Proofs.Ytobeppajomhfjaa
open Go.RowKit
set_option linter.unusedVariables false
set_option linter.unusedSimpArgs false
theorem HpA.below {B g N : Nat} {w w' : World} {v : Value} {L : List Ent} (h : HpA B w g v L) (hb : Below N w w') (hg : g < N) (hv : ∀ i, v.ownBlock = some i → i < N) : HpA B w' g v L :=
  h.fr (Fr.of_below hb) (show ¬ N ≤ g by omega) (fun i hi => show ¬ N ≤ i by have := hv i hi; omega)
theorem heap_of {B g : Nat} {w : World} {v : Value} {X M : List Ent} (h : HpA B w g v X) (hp : M.Perm X) (ho : OrdP M) : eE X 0 = eE M 0 := by
  rcases Nat.eq_zero_or_pos X.length with e | e
  · have hM : M = [] := List.length_eq_zero_iff.1 (by rw [hp.length_eq]; exact e)
    rw [List.length_eq_zero_iff.1 e, hM]
  · obtain ⟨s, rfl, _⟩ := heap_head h.2.2.2.2.2 ho hp e
    rw [eE_eq (eE X 0 :: s)]; rfl
theorem heap_cut {B g : Nat} {w : World} {v : Value} {X M : List Ent} (h : HpA B w g v X) (hp : M.Perm X) (ho : OrdP M) (h0 : 0 < X.length) : (cutE X).Perm (M.drop 1) := by
  obtain ⟨s, rfl, hs, _⟩ := heap_head h.2.2.2.2.2 ho hp h0
  exact hs.symm
theorem eE_drop (M : List Ent) (k i : Nat) : eE (M.drop k) i = eE M (k + i) := by
  rw [eE_eq, eE_eq, List.getD_eq_getElem?_getD, List.getD_eq_getElem?_getD, List.getElem?_drop]
def lenV : Value → Nat
  | .slice _ k _ => k
  | _ => 0
theorem own_lenV {w : World} {B m n : Nat} {e : TypeId} {v : Value} {xs : List Value} (h : w.ownsRow B e m v n xs) : lenV v = n := by
  obtain ⟨g, c, rfl⟩ := ownM_slice h; rfl
theorem ord_drop {M : List Ent} (h : OrdP M) (k : Nat) : OrdP (M.drop k) := List.Pairwise.sublist (List.drop_sublist k M) h
/-- what Until leaves: k entries are gone -/
def UntR (B g : Nat) (v : Value) (M : List Ent) (t : Int) (w : World) (e : Ending) (w' : World) : Prop := ∃ k v' X rv, e = .returned rv ∧ k ≤ M.length ∧ (∀ i, i < k → (eE M i).1 ≤ t) ∧ (k < M.length → t < (eE M k).1) ∧ IsE w' rv (M.take k) ∧ (M.drop k).Perm X ∧ HpA B w' g v' X ∧ Fr (hpS g v) w w' ∧ (∀ i, v'.ownBlock = some i → v.ownBlock = some i)
set_option maxRecDepth 100000 in
set_option maxHeartbeats 20000000 in
theorem until_any (B g : Nat) (v : Value) (X M : List Ent) (t : Int) (w : World) (h : HpA B w g v X) (hp : M.Perm X) (ho : OrdP M) (hl : M.length ≤ 1000) (ht : (Lit.int .i64 t).wf = true) :
    Calls Try.prog 28 #[.pointer (some ⟨g, 0, none⟩), .int .i64 t] w (UntR B g v M t w) := by
  have hgl := h.1.lt
  have hvl : ∀ i, v.ownBlock = some i → i < w.heap.size := fun i hi => (h.2.2.2.1.lt i hi).2
  have HVL := Lib.hid hvl
  have HP := Lib.hid hp; have HO := Lib.hid ho; have HT := Lib.hid ht; have HH := Lib.hid h
  have KP := Lib.hid (peek_any h (by have := hp.length_eq; omega))
  have he := heap_of h hp ho
  rw [he, ← hp.length_eq] at KP
  have e0 : eE M 0 = (zE M 0 0, zE M 0 1, zE M 0 2) := rfl
  obtain ⟨p0, hp0⟩ : ∃ x, zE M 0 0 = x := ⟨_, rfl⟩
  obtain ⟨q0, hq0⟩ : ∃ x, zE M 0 1 = x := ⟨_, rfl⟩
  obtain ⟨s0, hs0⟩ : ∃ x, zE M 0 2 = x := ⟨_, rfl⟩
  rw [hp0, hq0, hs0] at e0
  rw [e0] at KP
  have HE0 := Lib.hid e0
  unfold aE at KP
  dsimp only at KP
  obtain ⟨R, hR⟩ : ∃ R : Ending → World → Prop, UntR B g v M t w = R := ⟨_, rfl⟩
  have HR := Lib.hid hR
  rw [hR]
  obtain ⟨n, hn⟩ : ∃ n, M.length = n := ⟨_, rfl⟩
  have HN := Lib.hid hn
  rw [hn] at hl KP
  have HHN : Hid (∀ v' X, HpA B w g v' X → True) := Lib.hid fun _ _ _ => trivial
  clear h hp ho ht he e0 hp0 hq0 hs0 hR hn hvl HHN
  go_enter Try.func28, Try.ntmps28
  go_wp2_with fail
  refine KP.out.mono ?_
  rintro e w1 ⟨rfl, hb⟩
  have E1 := Lib.hid hb
  have H1 : Hid (HpA B w1 g v X) := Lib.hid (HH.out.below hb hgl HVL.out)
  clear hb KP
  go_wp2_with fail
  go_loopw [5, 6, 7] (fun gv bv kv wr => ∃ (k : Nat) (rv v' : Value) (Y : List Ent) (b : Nat), rv = gv ∧ k ≤ n ∧ bv = .pointer (some ⟨b, 0, none⟩) ∧ kv = .bool (decide (k < n)) ∧ Hid (∀ i, i < k → (eE M i).1 ≤ t) ∧ Hid (wr.ownsRow w.heap.size 24 3 rv k (rowM 3 (zE M) k)) ∧ Hid ((M.drop k).Perm Y) ∧ Hid (HpA B wr g v' Y) ∧ Hid (∀ i, v'.ownBlock = some i → v.ownBlock = some i) ∧ Hid (Fr (hpS g v) w wr) ∧ Hid (Blk wr b 24 #[.int .i64 (zE M k 0), .int .i64 (zE M k 1), .int .i64 (zE M k 2)]) ∧ Hid (w.heap.size ≤ b ∧ rv.ownBlock ≠ some b)) (fun gv _ _ _ => n - lenV gv)
  case atStart =>
    refine ⟨0, .slice none 0 0, v, X, w1.heap.size, rfl, Nat.zero_le _, rfl, rfl, Lib.hid (fun i hi => absurd hi (Nat.not_lt_zero _)), Lib.hid ⟨by simp [rowM_zero], Or.inl ⟨rfl, rfl⟩⟩, HP, Lib.hid (H1.out.fr (S := fun _ => False) ((Fr.refl _ w1).alloc _) (fun q => q) (fun _ _ q => q)), Lib.hid (fun i hi => hi), Lib.hid (((Fr.refl (hpS g v) w).below E1.out).alloc _), Lib.hid ?_, Lib.hid ⟨E1.out.size, fun e => by cases e⟩⟩
    have := HE0.out
    unfold eE at this
    simp only [Prod.mk.injEq] at this
    rw [this.1, this.2.1, this.2.2]
    exact Blk.new w1 _ _
  case round =>
    obtain ⟨k, rv, v', Y, b, hrv, hk, rfl, rfl, HLE, HG, HPY, HY, HSV, FF, HB, HSB⟩ := hrel
    subst hrv
    obtain ⟨p, hp⟩ : ∃ x, zE M k 0 = x := ⟨_, rfl⟩
    obtain ⟨q, hq⟩ : ∃ x, zE M k 1 = x := ⟨_, rfl⟩
    obtain ⟨s, hs⟩ : ∃ x, zE M k 2 = x := ⟨_, rfl⟩
    rw [hp, hq, hs] at HB
    have HC : Hid (zE M k 0 = p ∧ zE M k 1 = q ∧ zE M k 2 = s) := Lib.hid ⟨hp, hq, hs⟩
    clear hp hq hs
    have c0 : wr.cell? ⟨b, 0, none⟩ = some (.int .i64 p) := HB.out.cell 0
    have c1 : wr.cell? ⟨b, 1, none⟩ = some (.int .i64 q) := HB.out.cell 1
    have c2 : wr.cell? ⟨b, 2, none⟩ = some (.int .i64 s) := HB.out.cell 2
    have fin : ((k < n → t < p)) → UntR B g v M t w (.returned rv) wr := fun h => ⟨k, v', Y, rv, rfl, by rw [HN.out]; exact hk, HLE.out, fun h2 => by unfold eE; rw [HC.out.1]; exact h (by rw [HN.out] at h2; exact h2), own_isE (L := M.take k) (by
      rw [List.length_take, Nat.min_eq_left (by rw [HN.out]; exact hk)]
      rw [rowM_congr (b := zE M) (fun i j hi hj => by unfold zE; rw [List.getD_eq_getElem?_getD, List.getD_eq_getElem?_getD, List.getElem?_take_of_lt hi])]
      exact HG.out) (fun y hy => HH.out.2.2.2.2.1 y (HP.out.mem_iff.1 (List.mem_of_mem_take hy))), HPY.out, HY.out, FF.out, HSV.out⟩
    have FIN := Lib.hid fin
    rw [HR.out] at FIN
    clear fin
    by_cases hkn : k < n
    case neg =>
      have hd : decide (k < n) = false := decide_eq_false hkn
      rw [hd]
      have HKN := Lib.hid hkn
      clear hkn
      go_wp2_with fail
      exact FIN.out (fun h => absurd h HKN.out)
    have hd : decide (k < n) = true := decide_eq_true hkn
    rw [hd]
    by_cases hpt : p ≤ t
    case neg =>
      have hdp : decide (p ≤ t) = false := decide_eq_false hpt
      go_wp2_with fail
      exact FIN.out (fun _ => by omega)
    have hdp : decide (p ≤ t) = true := decide_eq_true hpt
    have hkn1 : k + 1 ≤ n := hkn
    have hYl : Y.length = n - k := by have := HPY.out.length_eq; rw [List.length_drop, HN.out] at this; exact this.symm
    have HYL := Lib.hid hYl
    clear FIN hYl
    have hwr := FF.out.size
    go_wp2_with (first
      | (at_builtin; refine append_ent rfl _ _ rfl w.heap.size rv k (rowM 3 (zE M) k) rfl (ownM_below HG.out ((Below.refl _ _).alloc (Nat.le_refl _) _)) wr.heap.size 1 p q s rfl (Blk.new wr _ _) (by omega) (by simp; omega) ?_; intro v2 w2 o2 q2 hblk; have KQ := Lib.hid (pop_some B g v' Y w2 ((HY.out.fr (S := fun _ => False) ((Fr.refl _ wr).alloc _) (fun q => q) (fun _ _ q => q)).below q2 hgl (fun i hi => HVL.out i (HSV.out i hi))) (by have := HYL.out; omega) (by have := HYL.out; omega)); have HB2 := Lib.hid (hblk b _ _ (HB.out.alloc _) HSB.out.2); have FF2 : Hid (Fr (hpS g v) w w2) := Lib.hid ((FF.out.alloc _).trans (Fr.of_below q2) (fun i hi q => absurd hi (by omega))); have HG2 := Lib.hid o2; have HY2 := Lib.hid ((HY.out.fr (S := fun _ => False) ((Fr.refl _ wr).alloc _) (fun q => q) (fun _ _ q => q)).below q2 hgl (fun i hi => HVL.out i (HSV.out i hi))); clear o2 q2 hblk c0 c1 c2))
    refine KQ.out.mono ?_
    rintro e w3 ⟨rfl, v3, Z, hz, hpz, hf, hsv⟩
    have hbn : ¬ hpS g v' b := fun h => h.elim (fun e => by have := HSB.out.1; omega) (fun e => by have := HVL.out b (HSV.out b e); have := HSB.out.1; omega)
    have HB3 := Lib.hid (HB2.out.fr hf hbn)
    have ho3 := ownM_fr HG2.out hf (fun i hi h => h.elim (fun e => by have := (HG2.out.lt i hi).1; omega) (fun e => by have := HVL.out i (HSV.out i e); have := (HG2.out.lt i hi).1; omega))
    have HG3 : Hid (w3.ownsRow w.heap.size 24 3 v2 (k + 1) (rowM 3 (zE M) (k + 1))) := Lib.hid (by
      rw [rowM_one (a := zE M) (b := zE M) (n := k) (fun _ _ _ _ => rfl) (by show [Value.int .i64 (zE M k 0), .int .i64 (zE M k 1), .int .i64 (zE M k 2)] = _; rw [HC.out.1, HC.out.2.1, HC.out.2.2])] at ho3
      exact ho3)
    have FF3 : Hid (Fr (hpS g v) w w3) := Lib.hid (FF2.out.trans hf (fun i hi h => h.elim (fun e => Or.inl e) (fun e => Or.inr (HSV.out i e))))
    have HPZ : Hid ((M.drop (k + 1)).Perm Z) := Lib.hid (by
      have := heap_cut HY2.out HPY.out (ord_drop HO.out k) (by have := HYL.out; omega)
      rw [List.drop_drop] at this
      exact (hz.trans this).symm)
    have HY3 := Lib.hid hpz
    have HSV3 : Hid (∀ i, v3.ownBlock = some i → v.ownBlock = some i) := Lib.hid (fun i hi => HSV.out i (hsv i hi))
    have c0 : w3.cell? ⟨b, 0, none⟩ = some (.int .i64 p) := HB3.out.cell 0
    have c1 : w3.cell? ⟨b, 1, none⟩ = some (.int .i64 q) := HB3.out.cell 1
    have c2 : w3.cell? ⟨b, 2, none⟩ = some (.int .i64 s) := HB3.out.cell 2
    have HY4 : Hid (HpA B (w3.alloc (.cells #[.int .i64 p, .int .i64 q, .int .i64 s] 24)) g v3 Z) := Lib.hid (hpz.fr (S := fun _ => False) ((Fr.refl _ w3).alloc _) (fun q => q) (fun _ _ q => q))
    have hZl : Z.length = n - (k + 1) := by have := HPZ.out.length_eq; rw [List.length_drop, HN.out] at this; exact this.symm
    have KP2 := Lib.hid (peek_any HY4.out (by omega))
    have he := heap_of hpz HPZ.out (ord_drop HO.out (k + 1))
    rw [eE_drop, Nat.add_zero] at he
    have hdz : decide (0 < Z.length) = decide (k + 1 < n) := by rw [hZl]; exact decide_eq_decide.2 (by omega)
    have e0 : eE M (k + 1) = (zE M (k + 1) 0, zE M (k + 1) 1, zE M (k + 1) 2) := rfl
    obtain ⟨p', hp0⟩ : ∃ x, zE M (k + 1) 0 = x := ⟨_, rfl⟩
    obtain ⟨q', hq0⟩ : ∃ x, zE M (k + 1) 1 = x := ⟨_, rfl⟩
    obtain ⟨s', hs0⟩ : ∃ x, zE M (k + 1) 2 = x := ⟨_, rfl⟩
    rw [hp0, hq0, hs0] at e0
    rw [he, e0, hdz] at KP2
    have HC' : Hid (zE M (k + 1) 0 = p' ∧ zE M (k + 1) 1 = q' ∧ zE M (k + 1) 2 = s') := Lib.hid ⟨hp0, hq0, hs0⟩
    unfold aE at KP2
    dsimp only at KP2
    have HBN : Hid (Blk (w3.alloc (.cells #[.int .i64 p, .int .i64 q, .int .i64 s] 24)) w3.heap.size 24 #[.int .i64 p, .int .i64 q, .int .i64 s]) := Lib.hid (Blk.new w3 _ _)
    have hg3 : g < w3.heap.size := by have := FF3.out.size; omega
    have HLE2 : Hid (∀ i, i < k + 1 → (eE M i).1 ≤ t) := Lib.hid (fun i hi => by
      by_cases e : i = k
      · subst e; unfold eE; rw [HC.out.1]; exact hpt
      · exact HLE.out i (by omega))
    have hme : lenV rv = k := own_lenV HG.out
    have hme2 : lenV v2 = k + 1 := own_lenV HG3.out
    have HME := Lib.hid (And.intro hme hme2)
    have hw3 := FF3.out.size
    have HW3 := Lib.hid hw3
    clear hz hpz hf hsv hbn ho3 KQ he e0 hp0 hq0 hs0 hdz hZl hme hme2 hw3 FF2 HG2 HB2 HY2 HY HG HB
    go_wp2_with fail
    refine KP2.out.mono ?_
    rintro e w5 ⟨rfl, hb⟩
    have HB5 := Lib.hid (HBN.out.next hb)
    have F5 : Hid (Fr (fun _ => False) w3 w5) := Lib.hid (((Fr.refl (fun _ => False) w3).alloc (.cells #[.int .i64 p, .int .i64 q, .int .i64 s] 24)).below hb)
    have d0 : w5.cell? ⟨w3.heap.size, 0, none⟩ = some (.int .i64 p) := HB5.out.cell 0
    have d1 : w5.cell? ⟨w3.heap.size, 1, none⟩ = some (.int .i64 q) := HB5.out.cell 1
    have d2 : w5.cell? ⟨w3.heap.size, 2, none⟩ = some (.int .i64 s) := HB5.out.cell 2
    have f0 : w5.frozen? ⟨w3.heap.size, 0, none⟩ = false := HB5.out.frozen 0
    have f1 : w5.frozen? ⟨w3.heap.size, 1, none⟩ = false := HB5.out.frozen 1
    have f2 : w5.frozen? ⟨w3.heap.size, 2, none⟩ = false := HB5.out.frozen 2
    clear hb c0 c1 c2
    go_wp2_with fail
    have FN : Fr (fun i => i = w3.heap.size) w3 (((w5.setCell ⟨w3.heap.size, 0, none⟩ (.int .i64 p')).setCell ⟨w3.heap.size, 1, none⟩ (.int .i64 q')).setCell ⟨w3.heap.size, 2, none⟩ (.int .i64 s')) := (((F5.out.mono (T := fun i => i = w3.heap.size) (fun _ _ h => h.elim)).setCell (p := ⟨w3.heap.size, 0, none⟩) (Or.inr rfl) _).setCell (p := ⟨w3.heap.size, 1, none⟩) (Or.inr rfl) _).setCell (p := ⟨w3.heap.size, 2, none⟩) (Or.inr rfl) _
    have HFN := Lib.hid FN
    have BN : Blk (((w5.setCell ⟨w3.heap.size, 0, none⟩ (.int .i64 p')).setCell ⟨w3.heap.size, 1, none⟩ (.int .i64 q')).setCell ⟨w3.heap.size, 2, none⟩ (.int .i64 s')) w3.heap.size 24 #[.int .i64 p', .int .i64 q', .int .i64 s'] := ((HB5.out.set 0 (.int .i64 p')).set 1 (.int .i64 q')).set 2 (.int .i64 s')
    have HBNN := Lib.hid BN
    clear d0 d1 d2 f0 f1 f2 FN BN
    go_roundw
    case rel => exact ⟨k + 1, v2, v3, Z, w3.heap.size, rfl, hkn1, rfl, rfl, HLE2, Lib.hid (ownM_fr HG3.out HFN.out (fun i hi e => by have := (HG3.out.lt i hi).2; omega)), HPZ, Lib.hid (HY3.out.fr HFN.out (by show ¬ g = w3.heap.size; omega) (fun i hi e => by have := (HY3.out.2.2.2.1.lt i hi).2; omega)), HSV3, Lib.hid (FF3.out.trans HFN.out (fun i hi e => absurd hi (by have := HW3.out; omega))), Lib.hid (by rw [HC'.out.1, HC'.out.2.1, HC'.out.2.2]; exact HBNN.out), Lib.hid ⟨HW3.out, fun e => by have := (HG3.out.lt _ e).2; omega⟩⟩
    case measure => rw [HME.out.1, HME.out.2]; omega
end Go.Proofs.Ytobeppajomhfjaa
