/- The law's step of heaps. -/
import Derived.Test.YtobeppajomhfjaaHeapU
import Derived.WalkKit
import Derived.IntWalk
import Derived.Lib.Hide
import Derived.WalkSpells
import Derived.WalkLawsBesides
import Derived.OwnWalk
import Derived.BigRegion
import Derived.Deep.LoopGhost
import Derived.Deep.RegionHeld3
import Derived.Deep.QuietTactic
import Derived.BigQuiet
import Derived.Laws.CopyOwn
import Derived.Laws.MakeOwn
import Derived.Laws.OwnMore
import Derived.Laws.AppendOwnNone
namespace Go.Proofs.Ytobeppajomhfjaa
open Go.RowKit
set_option linter.unusedVariables false
set_option linter.unusedSimpArgs false
def StepR (B g : Nat) (v : Value) (M : List Ent) (w : World) (e : Ending) (w' : World) : Prop := ∃ lv' v' X' M', e = .returned (.tuple #[lv', .bool true]) ∧ StP B w' g v' X' lv' M' ∧ Fr (hpS g v) w w' ∧ newV w v v' ∧ M'.length ≤ M.length + 1
theorem isE_head {w : World} {b o n c : Nat} {M : List Ent} {p q s : Int} (h : IsE w (.slice (some ⟨b, o, none⟩) n c) M) (h0 : 0 < n) (hc : eE M 0 = (p, q, s)) : At w b o #[.int .i64 p, .int .i64 q, .int .i64 s] := by
  obtain ⟨A, c', e, hr, _⟩ := h
  simp only [Value.slice.injEq] at e
  obtain ⟨rfl, rfl, rfl⟩ := e
  obtain ⟨b', o', e', hlt, hcell⟩ := rdZ_row hr (by omega) h0
  cases e'
  unfold eE at hc
  simp only [Prod.mk.injEq] at hc
  have k0 := hcell 0 0 h0 (by omega)
  have k1 := hcell 0 1 h0 (by omega)
  have k2 := hcell 0 2 h0 (by omega)
  rw [hc.1] at k0
  rw [hc.2.1] at k1
  rw [hc.2.2] at k2
  exact at3 (by simpa using k0) (by simpa using k1) (by simpa using k2)
theorem zE_drop (M : List Ent) (k i j : Nat) : zE (M.drop k) i j = zE M (k + i) j := by
  unfold zE
  rw [List.getD_eq_getElem?_getD, List.getD_eq_getElem?_getD, List.getElem?_drop]
theorem isE_drop {w : World} {b o n c k : Nat} {M : List Ent} (h : IsE w (.slice (some ⟨b, o, none⟩) n c) M) (hk : k ≤ n) : IsE w (.slice (some ⟨b, o + k * 3, none⟩) (n - k) (c - k)) (M.drop k) := by
  obtain ⟨A, c', e, hr, h1, h2, h3⟩ := h
  simp only [Value.slice.injEq] at e
  obtain ⟨rfl, rfl, rfl⟩ := e
  refine ⟨_, _, by rw [List.length_drop], ?_, by rw [List.length_drop]; omega, by omega, fun e => by cases e⟩
  rw [List.length_drop]
  have := rdZ_dropE k hr
  intro i hi
  obtain ⟨a, e, hlt, hc⟩ := this i hi
  exact ⟨a, e, hlt, fun j hj => by rw [zE_drop]; exact hc j hj⟩
theorem isE_tail {w : World} {b o n c : Nat} {M : List Ent} (h : IsE w (.slice (some ⟨b, o, none⟩) n c) M) (hk : 1 ≤ n) (hc : 1 < c) : IsE w (.slice (some ⟨b, o + 3, none⟩) (n - 1) (c - 1)) (M.drop 1) := by
  have := isE_drop h hk
  rwa [Nat.one_mul] at this
theorem isE_empty (w : World) (a : Addr) (c : Nat) (hc : c ≤ maxLen) : IsE w (.slice (some a) 0 c) [] := ⟨some a, c, rfl, fun i hi => absurd hi (Nat.not_lt_zero _), Nat.zero_le _, hc, fun e => by cases e⟩
theorem isE_tail1 {w : World} {b o : Nat} {M : List Ent} (h : IsE w (.slice (some ⟨b, o, none⟩) 1 1) M) (hm : M.length = 1) : IsE w (.slice (some ⟨b, o, none⟩) 0 0) (M.drop 1) := by
  rw [List.drop_eq_nil_of_le (by omega)]
  exact isE_empty w _ 0 (Nat.zero_le _)
set_option maxRecDepth 100000 in
set_option maxHeartbeats 20000000 in
theorem step_push0 {B g : Nat} {v lv : Value} {X M : List Ent} {kind t d f m : Int} {w : World} (hst : StP B w g v X lv M) (hl : M.length ≤ 500) (h0 : 0 ≤ kind) (hkm : kind % 6 = m) (hm : m = 0) (hx : WfE (t, d, f)) (hkw : (Lit.int .i64 kind).wf = true) :
    Calls Try.prog 13 #[.pointer (some ⟨g, 0, none⟩), lv, .agg #[.int .i64 kind, .int .i64 t, .int .i64 d, .int .i64 f]] w (StepR B g v M w) := by
  obtain ⟨hk1, hk2⟩ := bounds_i64 hkw
  have hr1 : IntKind.i64.wrap (Int.tmod kind 6) = m := by rw [Int.tmod_eq_emod_of_nonneg h0, hkm]; exact IntWalk.i64_in _ (by omega)
  have hr2 : wrap64 (kind % 6) = m := by rw [hkm]; exact IntWalk.wrap64_in _ (by omega)
  have ST0 := Lib.hid (hst.none ((Fr.refl _ w).alloc (.cells #[.int .i64 kind, .int .i64 t, .int .i64 d, .int .i64 f] 35)))
  have BO := Blk.new w #[.int .i64 kind, .int .i64 t, .int .i64 d, .int .i64 f] 35
  have HBO := Lib.hid BO
  have EE : Hid (Below w.heap.size w (w.alloc (.cells #[.int .i64 kind, .int .i64 t, .int .i64 d, .int .i64 f] 35))) := Lib.hid ((Below.refl w.heap.size w).alloc (Nat.le_refl _) _)
  have c0 := BO.cell 0
  have c1 := BO.cell 1
  have c2 := BO.cell 2
  have c3 := BO.cell 3
  have hgl := hst.1.1.lt
  have HVL : Hid (∀ i, v.ownBlock = some i → i < w.heap.size) := Lib.hid (fun i hi => (hst.1.2.2.2.1.lt i hi).2)
  have HM := Lib.hid hl; have HX := Lib.hid hx
  have hbn : ¬ hpS g v w.heap.size := fun h => h.elim (fun e => by omega) (fun e => absurd (HVL.out _ e) (by omega))
  have HBN := Lib.hid hbn
  have HST := Lib.hid hst
  subst hm
  have KP := Lib.hid (push_any B g v (t, d, f) X _ ST0.out.1 hx (by have := hst.2.1.length_eq; omega))
  unfold aE at KP
  dsimp only at KP
  clear hst hl BO hbn hx hk1 hk2 hkw hr1 hr2
  go_enter Try.func13, Try.ntmps13
  go_wp2_with fail
  refine KP.out.mono ?_
  rintro e w1 ⟨rfl, v1, X1, hp, hh, hf, hn⟩
  have HBO1 := Lib.hid (HBO.out.fr hf HBN.out)
  have hs0 := ST0.out.2.2.2.2
  have hi1 : IsE w1 lv M := ST0.out.2.2.2.1.fr hf (fun a n c e h => h.elim (fun q => (hs0 a n c e).1 q) (fun q => (hs0 a n c e).2 q))
  have KD := Lib.hid (dput_gen lv (t, d, f) M w1 hi1 (by have := HM.out; omega) HX.out)
  unfold aE at KD
  dsimp only at KD
  have HP := Lib.hid hp; have HH := Lib.hid hh; have HN := Lib.hid hn
  have FF : Hid (Fr (hpS g v) w w1) := Lib.hid (((Fr.refl (hpS g v) w).below EE.out).trans hf (fun i _ q => q))
  have e0 : w1.cell? ⟨w.heap.size, 0, none⟩ = some (.int .i64 kind) := HBO1.out.cell 0
  have e1 : w1.cell? ⟨w.heap.size, 1, none⟩ = some (.int .i64 t) := HBO1.out.cell 1
  have e2 : w1.cell? ⟨w.heap.size, 2, none⟩ = some (.int .i64 d) := HBO1.out.cell 2
  have e3 : w1.cell? ⟨w.heap.size, 3, none⟩ = some (.int .i64 f) := HBO1.out.cell 3
  clear hp hh hf hn hs0 hi1 c0 c1 c2 c3 KP
  go_wp2_with fail
  refine KD.out.mono ?_
  rintro e w2 ⟨lv2, i, rfl, hi, he, h1, h2, hb, hnw⟩
  have HI := Lib.hid hi; have HE := Lib.hid he; have H1 := Lib.hid h1; have H2 := Lib.hid h2; have HB2 := Lib.hid hb; have HNW := Lib.hid hnw
  clear hi he h1 h2 hb hnw e0 e1 e2 e3 KD
  go_wp2_with fail
  have hw1 := HH.out.1.lt
  have ho1 := HH.out.2.2.2.1.lt
  refine bodyPost_ret (v := .tuple #[lv2, .bool true]) (by simp [results, Try.results13, go_sem]) rfl ⟨lv2, v1, X1, M.take i ++ (t, d, f) :: M.drop i, rfl, ⟨HH.out.fr (S := fun _ => False) ((Fr.refl _ w1).below HB2.out) (fun q => q) (fun _ _ q => q), (put_perm M (t, d, f) i).trans (((List.perm_cons _).2 HST.out.2.1).trans HP.out.symm), ordP_put HST.out.2.2.1 HI.out H1.out H2.out, HE.out, fun a n c e => ⟨fun q => by have := HNW.out a n c e; omega, fun q => by have := HNW.out a n c e; have := (ho1 _ q).2; omega⟩⟩, FF.out.below HB2.out, fun i hi => (HN.out i hi).imp (fun q => q) (fun q => Nat.le_trans EE.out.size q), by rw [(put_perm M (t, d, f) i).length_eq]; simp⟩
set_option maxRecDepth 100000 in
set_option maxHeartbeats 20000000 in
theorem step_push1 {B g : Nat} {v lv : Value} {X M : List Ent} {kind t d f m : Int} {w : World} (hst : StP B w g v X lv M) (hl : M.length ≤ 500) (h0 : 0 ≤ kind) (hkm : kind % 6 = m) (hm : m = 1) (hx : WfE (t, d, f)) (hkw : (Lit.int .i64 kind).wf = true) :
    Calls Try.prog 13 #[.pointer (some ⟨g, 0, none⟩), lv, .agg #[.int .i64 kind, .int .i64 t, .int .i64 d, .int .i64 f]] w (StepR B g v M w) := by
  obtain ⟨hk1, hk2⟩ := bounds_i64 hkw
  have hr1 : IntKind.i64.wrap (Int.tmod kind 6) = m := by rw [Int.tmod_eq_emod_of_nonneg h0, hkm]; exact IntWalk.i64_in _ (by omega)
  have hr2 : wrap64 (kind % 6) = m := by rw [hkm]; exact IntWalk.wrap64_in _ (by omega)
  have ST0 := Lib.hid (hst.none ((Fr.refl _ w).alloc (.cells #[.int .i64 kind, .int .i64 t, .int .i64 d, .int .i64 f] 35)))
  have BO := Blk.new w #[.int .i64 kind, .int .i64 t, .int .i64 d, .int .i64 f] 35
  have HBO := Lib.hid BO
  have EE : Hid (Below w.heap.size w (w.alloc (.cells #[.int .i64 kind, .int .i64 t, .int .i64 d, .int .i64 f] 35))) := Lib.hid ((Below.refl w.heap.size w).alloc (Nat.le_refl _) _)
  have c0 := BO.cell 0
  have c1 := BO.cell 1
  have c2 := BO.cell 2
  have c3 := BO.cell 3
  have hgl := hst.1.1.lt
  have HVL : Hid (∀ i, v.ownBlock = some i → i < w.heap.size) := Lib.hid (fun i hi => (hst.1.2.2.2.1.lt i hi).2)
  have HM := Lib.hid hl; have HX := Lib.hid hx
  have hbn : ¬ hpS g v w.heap.size := fun h => h.elim (fun e => by omega) (fun e => absurd (HVL.out _ e) (by omega))
  have HBN := Lib.hid hbn
  have HST := Lib.hid hst
  subst hm
  have KP := Lib.hid (push_any B g v (t, d, f) X _ ST0.out.1 hx (by have := hst.2.1.length_eq; omega))
  unfold aE at KP
  dsimp only at KP
  clear hst hl BO hbn hx hk1 hk2 hkw hr1 hr2
  go_enter Try.func13, Try.ntmps13
  go_wp2_with fail
  refine KP.out.mono ?_
  rintro e w1 ⟨rfl, v1, X1, hp, hh, hf, hn⟩
  have HBO1 := Lib.hid (HBO.out.fr hf HBN.out)
  have hs0 := ST0.out.2.2.2.2
  have hi1 : IsE w1 lv M := ST0.out.2.2.2.1.fr hf (fun a n c e h => h.elim (fun q => (hs0 a n c e).1 q) (fun q => (hs0 a n c e).2 q))
  have KD := Lib.hid (dput_gen lv (t, d, f) M w1 hi1 (by have := HM.out; omega) HX.out)
  unfold aE at KD
  dsimp only at KD
  have HP := Lib.hid hp; have HH := Lib.hid hh; have HN := Lib.hid hn
  have FF : Hid (Fr (hpS g v) w w1) := Lib.hid (((Fr.refl (hpS g v) w).below EE.out).trans hf (fun i _ q => q))
  have e0 : w1.cell? ⟨w.heap.size, 0, none⟩ = some (.int .i64 kind) := HBO1.out.cell 0
  have e1 : w1.cell? ⟨w.heap.size, 1, none⟩ = some (.int .i64 t) := HBO1.out.cell 1
  have e2 : w1.cell? ⟨w.heap.size, 2, none⟩ = some (.int .i64 d) := HBO1.out.cell 2
  have e3 : w1.cell? ⟨w.heap.size, 3, none⟩ = some (.int .i64 f) := HBO1.out.cell 3
  clear hp hh hf hn hs0 hi1 c0 c1 c2 c3 KP
  go_wp2_with fail
  refine KD.out.mono ?_
  rintro e w2 ⟨lv2, i, rfl, hi, he, h1, h2, hb, hnw⟩
  have HI := Lib.hid hi; have HE := Lib.hid he; have H1 := Lib.hid h1; have H2 := Lib.hid h2; have HB2 := Lib.hid hb; have HNW := Lib.hid hnw
  clear hi he h1 h2 hb hnw e0 e1 e2 e3 KD
  go_wp2_with fail
  have hw1 := HH.out.1.lt
  have ho1 := HH.out.2.2.2.1.lt
  refine bodyPost_ret (v := .tuple #[lv2, .bool true]) (by simp [results, Try.results13, go_sem]) rfl ⟨lv2, v1, X1, M.take i ++ (t, d, f) :: M.drop i, rfl, ⟨HH.out.fr (S := fun _ => False) ((Fr.refl _ w1).below HB2.out) (fun q => q) (fun _ _ q => q), (put_perm M (t, d, f) i).trans (((List.perm_cons _).2 HST.out.2.1).trans HP.out.symm), ordP_put HST.out.2.2.1 HI.out H1.out H2.out, HE.out, fun a n c e => ⟨fun q => by have := HNW.out a n c e; omega, fun q => by have := HNW.out a n c e; have := (ho1 _ q).2; omega⟩⟩, FF.out.below HB2.out, fun i hi => (HN.out i hi).imp (fun q => q) (fun q => Nat.le_trans EE.out.size q), by rw [(put_perm M (t, d, f) i).length_eq]; simp⟩
set_option maxRecDepth 100000 in
set_option maxHeartbeats 20000000 in
theorem step_push2 {B g : Nat} {v lv : Value} {X M : List Ent} {kind t d f m : Int} {w : World} (hst : StP B w g v X lv M) (hl : M.length ≤ 500) (h0 : 0 ≤ kind) (hkm : kind % 6 = m) (hm : m = 2) (hx : WfE (t, d, f)) (hkw : (Lit.int .i64 kind).wf = true) :
    Calls Try.prog 13 #[.pointer (some ⟨g, 0, none⟩), lv, .agg #[.int .i64 kind, .int .i64 t, .int .i64 d, .int .i64 f]] w (StepR B g v M w) := by
  obtain ⟨hk1, hk2⟩ := bounds_i64 hkw
  have hr1 : IntKind.i64.wrap (Int.tmod kind 6) = m := by rw [Int.tmod_eq_emod_of_nonneg h0, hkm]; exact IntWalk.i64_in _ (by omega)
  have hr2 : wrap64 (kind % 6) = m := by rw [hkm]; exact IntWalk.wrap64_in _ (by omega)
  have ST0 := Lib.hid (hst.none ((Fr.refl _ w).alloc (.cells #[.int .i64 kind, .int .i64 t, .int .i64 d, .int .i64 f] 35)))
  have BO := Blk.new w #[.int .i64 kind, .int .i64 t, .int .i64 d, .int .i64 f] 35
  have HBO := Lib.hid BO
  have EE : Hid (Below w.heap.size w (w.alloc (.cells #[.int .i64 kind, .int .i64 t, .int .i64 d, .int .i64 f] 35))) := Lib.hid ((Below.refl w.heap.size w).alloc (Nat.le_refl _) _)
  have c0 := BO.cell 0
  have c1 := BO.cell 1
  have c2 := BO.cell 2
  have c3 := BO.cell 3
  have hgl := hst.1.1.lt
  have HVL : Hid (∀ i, v.ownBlock = some i → i < w.heap.size) := Lib.hid (fun i hi => (hst.1.2.2.2.1.lt i hi).2)
  have HM := Lib.hid hl; have HX := Lib.hid hx
  have hbn : ¬ hpS g v w.heap.size := fun h => h.elim (fun e => by omega) (fun e => absurd (HVL.out _ e) (by omega))
  have HBN := Lib.hid hbn
  have HST := Lib.hid hst
  subst hm
  have KP := Lib.hid (push_any B g v (t, d, f) X _ ST0.out.1 hx (by have := hst.2.1.length_eq; omega))
  unfold aE at KP
  dsimp only at KP
  clear hst hl BO hbn hx hk1 hk2 hkw hr1 hr2
  go_enter Try.func13, Try.ntmps13
  go_wp2_with fail
  refine KP.out.mono ?_
  rintro e w1 ⟨rfl, v1, X1, hp, hh, hf, hn⟩
  have HBO1 := Lib.hid (HBO.out.fr hf HBN.out)
  have hs0 := ST0.out.2.2.2.2
  have hi1 : IsE w1 lv M := ST0.out.2.2.2.1.fr hf (fun a n c e h => h.elim (fun q => (hs0 a n c e).1 q) (fun q => (hs0 a n c e).2 q))
  have KD := Lib.hid (dput_gen lv (t, d, f) M w1 hi1 (by have := HM.out; omega) HX.out)
  unfold aE at KD
  dsimp only at KD
  have HP := Lib.hid hp; have HH := Lib.hid hh; have HN := Lib.hid hn
  have FF : Hid (Fr (hpS g v) w w1) := Lib.hid (((Fr.refl (hpS g v) w).below EE.out).trans hf (fun i _ q => q))
  have e0 : w1.cell? ⟨w.heap.size, 0, none⟩ = some (.int .i64 kind) := HBO1.out.cell 0
  have e1 : w1.cell? ⟨w.heap.size, 1, none⟩ = some (.int .i64 t) := HBO1.out.cell 1
  have e2 : w1.cell? ⟨w.heap.size, 2, none⟩ = some (.int .i64 d) := HBO1.out.cell 2
  have e3 : w1.cell? ⟨w.heap.size, 3, none⟩ = some (.int .i64 f) := HBO1.out.cell 3
  clear hp hh hf hn hs0 hi1 c0 c1 c2 c3 KP
  go_wp2_with fail
  refine KD.out.mono ?_
  rintro e w2 ⟨lv2, i, rfl, hi, he, h1, h2, hb, hnw⟩
  have HI := Lib.hid hi; have HE := Lib.hid he; have H1 := Lib.hid h1; have H2 := Lib.hid h2; have HB2 := Lib.hid hb; have HNW := Lib.hid hnw
  clear hi he h1 h2 hb hnw e0 e1 e2 e3 KD
  go_wp2_with fail
  have hw1 := HH.out.1.lt
  have ho1 := HH.out.2.2.2.1.lt
  refine bodyPost_ret (v := .tuple #[lv2, .bool true]) (by simp [results, Try.results13, go_sem]) rfl ⟨lv2, v1, X1, M.take i ++ (t, d, f) :: M.drop i, rfl, ⟨HH.out.fr (S := fun _ => False) ((Fr.refl _ w1).below HB2.out) (fun q => q) (fun _ _ q => q), (put_perm M (t, d, f) i).trans (((List.perm_cons _).2 HST.out.2.1).trans HP.out.symm), ordP_put HST.out.2.2.1 HI.out H1.out H2.out, HE.out, fun a n c e => ⟨fun q => by have := HNW.out a n c e; omega, fun q => by have := HNW.out a n c e; have := (ho1 _ q).2; omega⟩⟩, FF.out.below HB2.out, fun i hi => (HN.out i hi).imp (fun q => q) (fun q => Nat.le_trans EE.out.size q), by rw [(put_perm M (t, d, f) i).length_eq]; simp⟩
set_option maxRecDepth 100000 in
set_option maxHeartbeats 20000000 in
theorem step_popn3 {B g : Nat} {v lv : Value} {X M : List Ent} {kind t d f m : Int} {w : World} (hst : StP B w g v X lv M) (hl : M.length ≤ 500) (h0 : 0 ≤ kind) (hkm : kind % 6 = m) (hm : m = 3) (hM : M = []) (hx : WfE (t, d, f)) (hkw : (Lit.int .i64 kind).wf = true) :
    Calls Try.prog 13 #[.pointer (some ⟨g, 0, none⟩), lv, .agg #[.int .i64 kind, .int .i64 t, .int .i64 d, .int .i64 f]] w (StepR B g v M w) := by
  obtain ⟨hk1, hk2⟩ := bounds_i64 hkw
  have hr1 : IntKind.i64.wrap (Int.tmod kind 6) = m := by rw [Int.tmod_eq_emod_of_nonneg h0, hkm]; exact IntWalk.i64_in _ (by omega)
  have hr2 : wrap64 (kind % 6) = m := by rw [hkm]; exact IntWalk.wrap64_in _ (by omega)
  have ST0 := Lib.hid (hst.none ((Fr.refl _ w).alloc (.cells #[.int .i64 kind, .int .i64 t, .int .i64 d, .int .i64 f] 35)))
  have BO := Blk.new w #[.int .i64 kind, .int .i64 t, .int .i64 d, .int .i64 f] 35
  have HBO := Lib.hid BO
  have EE : Hid (Below w.heap.size w (w.alloc (.cells #[.int .i64 kind, .int .i64 t, .int .i64 d, .int .i64 f] 35))) := Lib.hid ((Below.refl w.heap.size w).alloc (Nat.le_refl _) _)
  have c0 := BO.cell 0
  have c1 := BO.cell 1
  have c2 := BO.cell 2
  have c3 := BO.cell 3
  have hgl := hst.1.1.lt
  have HVL : Hid (∀ i, v.ownBlock = some i → i < w.heap.size) := Lib.hid (fun i hi => (hst.1.2.2.2.1.lt i hi).2)
  have HM := Lib.hid hl; have HX := Lib.hid hx
  have hbn : ¬ hpS g v w.heap.size := fun h => h.elim (fun e => by omega) (fun e => absurd (HVL.out _ e) (by omega))
  have HBN := Lib.hid hbn
  have HST := Lib.hid hst
  subst hm
  subst hM
  obtain rfl : X = [] := (List.nil_perm.1 hst.2.1)
  have KP := Lib.hid (pop_nil ST0.out.1)
  obtain ⟨A, c, rfl⟩ : ∃ A c, lv = .slice A 0 c := by obtain ⟨A, c, h, _⟩ := hst.2.2.2.1; exact ⟨A, c, h⟩
  clear hst hl BO hbn hx hk1 hk2 hkw hr1 hr2
  go_enter Try.func13, Try.ntmps13
  go_wp2_with fail
  refine KP.out.mono ?_
  rintro e w1 ⟨rfl, hb⟩
  have E1 := Lib.hid (EE.out.trans (hb.mono EE.out.size))
  have STE : Hid (StP B (w1.alloc (.cells #[.int .i64 0, .int .i64 0, .int .i64 0] 24)) g v [] (.slice A 0 c) []) := Lib.hid ((ST0.out.below hb).none ((Fr.refl _ w1).alloc _))
  have BE : Blk (w1.alloc (.cells #[.int .i64 0, .int .i64 0, .int .i64 0] 24)) w1.heap.size 24 #[.int .i64 0, .int .i64 0, .int .i64 0] := Blk.new w1 _ _
  have EB : Below w.heap.size w (w1.alloc (.cells #[.int .i64 0, .int .i64 0, .int .i64 0] 24)) := E1.out.alloc E1.out.size _
  clear hb KP
  go_wp2_with fail
  obtain ⟨g1, hg1⟩ : ∃ g, w1.heap.size = g := ⟨_, rfl⟩
  obtain ⟨V1, hV1⟩ : ∃ V, (w1.alloc (.cells #[.int .i64 0, .int .i64 0, .int .i64 0] 24)) = V := ⟨_, rfl⟩
  rw [hg1] at BE ⊢
  rw [hV1] at BE STE EB ⊢
  have HE := Lib.hid BE; have EE := Lib.hid EB
  clear BE EB hV1 hg1
  have kE0 : V1.cell? ⟨g1, 0, none⟩ = some (.int .i64 0) := HE.out.cell 0
  have kE1 : V1.cell? ⟨g1, 1, none⟩ = some (.int .i64 0) := HE.out.cell 1
  have kE2 : V1.cell? ⟨g1, 2, none⟩ = some (.int .i64 0) := HE.out.cell 2
  go_wp2_with fail
  have sK : ∀ X, Blk X (g1) 24 #[.int .i64 0, .int .i64 0, .int .i64 0] → (fun X => X.cell? ⟨g1, 0, none⟩ = some (.int .i64 0) ∧ X.cell? ⟨g1, 1, none⟩ = some (.int .i64 0) ∧ X.cell? ⟨g1, 2, none⟩ = some (.int .i64 0)) X := fun X hE => ⟨hE.cell 0, hE.cell 1, hE.cell 2⟩
  have LE0 := Lib.hid (HE.out.drew)
  have E0 := Lib.hid (EE.out.drew)
  clear kE0 kE1 kE2
  refine wp_region_held_drew (S := (fun X => X.cell? ⟨g1, 0, none⟩ = some (.int .i64 0) ∧ X.cell? ⟨g1, 1, none⟩ = some (.int .i64 0) ∧ X.cell? ⟨g1, 2, none⟩ = some (.int .i64 0))) (by kernel_rfl) (sK _ LE0.out) (fun hHeld => ?_)
  clear hHeld
  refine wpAnyH_take (i := 0) (v := ?_) rfl (by kernel_rfl) (by kernel_rfl) (by kernel_rfl) (fun _ _ _ h => h) (Or.inl ⟨by rfl, ?_⟩) (sK _ LE0.out) ?_
  rotate_left
  · (intro wS hSw; (try dsimp only at hSw); go_simp; try with_reducible rfl)
  simp only [Act.put, List.getElem_toArray, List.getElem_cons_zero, List.getElem_cons_succ, List.setIfInBounds_toArray, List.set_cons_zero, List.set_cons_succ]
  refine wpAnyH_take (i := 1) (v := ?_) rfl (by kernel_rfl) (by kernel_rfl) (by kernel_rfl) (fun _ _ _ h => h) (Or.inl ⟨by rfl, ?_⟩) (sK _ LE0.out) ?_
  rotate_left
  · (intro wS hSw; (try dsimp only at hSw); go_simp; try with_reducible rfl)
  simp only [Act.put, List.getElem_toArray, List.getElem_cons_zero, List.getElem_cons_succ, List.setIfInBounds_toArray, List.set_cons_zero, List.set_cons_succ]
  refine wpAnyH_take (i := 2) (v := ?_) rfl (by kernel_rfl) (by kernel_rfl) (by kernel_rfl) (fun _ _ _ h => h) (Or.inl ⟨by rfl, ?_⟩) (sK _ LE0.out) ?_
  rotate_left
  · (intro wS hSw; (try dsimp only at hSw); go_simp; try with_reducible rfl)
  simp only [Act.put, List.getElem_toArray, List.getElem_cons_zero, List.getElem_cons_succ, List.setIfInBounds_toArray, List.set_cons_zero, List.set_cons_succ]
  refine wpAnyH_take (i := 3) (v := ?_) rfl (by kernel_rfl) (by kernel_rfl) (by kernel_rfl) (fun _ _ _ h => h) (Or.inl ⟨by rfl, ?_⟩) (sK _ LE0.out) ?_
  rotate_left
  · (intro wS hSw; (try dsimp only at hSw); go_simp; try with_reducible rfl)
  simp only [Act.put, List.getElem_toArray, List.getElem_cons_zero, List.getElem_cons_succ, List.setIfInBounds_toArray, List.set_cons_zero, List.set_cons_succ]
  refine wpAnyH_take (i := 4) (v := ?_) rfl (by kernel_rfl) (by kernel_rfl) (by kernel_rfl) (fun _ _ _ h => h) (Or.inl ⟨by rfl, ?_⟩) (sK _ LE0.out) ?_
  rotate_left
  · (intro wS hSw; (try dsimp only at hSw); go_simp; try with_reducible rfl)
  simp only [Act.put, List.getElem_toArray, List.getElem_cons_zero, List.getElem_cons_succ, List.setIfInBounds_toArray, List.set_cons_zero, List.set_cons_succ]
  refine wpAnyH_take (i := 5) (v := ?_) rfl (by kernel_rfl) (by kernel_rfl) (by kernel_rfl) (fun _ _ _ h => h) (Or.inl ⟨by rfl, ?_⟩) (sK _ LE0.out) ?_
  rotate_left
  · (intro wS hSw; (try dsimp only at hSw); go_simp; try with_reducible rfl)
  simp only [Act.put, List.getElem_toArray, List.getElem_cons_zero, List.getElem_cons_succ, List.setIfInBounds_toArray, List.set_cons_zero, List.set_cons_succ]
  refine wpAnyH_take (i := 6) (v := ?_) rfl (by kernel_rfl) (by kernel_rfl) (by kernel_rfl) (fun _ _ _ h => h) (Or.inl ⟨by rfl, ?_⟩) (sK _ LE0.out) ?_
  rotate_left
  · (intro wS hSw; (try dsimp only at hSw); go_simp; try with_reducible rfl)
  simp only [Act.put, List.getElem_toArray, List.getElem_cons_zero, List.getElem_cons_succ, List.setIfInBounds_toArray, List.set_cons_zero, List.set_cons_succ]
  refine wpAnyH_take (i := 7) (v := ?_) rfl (by kernel_rfl) (by kernel_rfl) (by kernel_rfl) (fun _ _ _ h => h) (Or.inl ⟨by rfl, ?_⟩) (sK _ LE0.out) ?_
  rotate_left
  · (intro wS hSw; (try dsimp only at hSw); go_simp; try with_reducible rfl)
  simp only [Act.put, List.getElem_toArray, List.getElem_cons_zero, List.getElem_cons_succ, List.setIfInBounds_toArray, List.set_cons_zero, List.set_cons_succ]
  refine wpAnyH_take (i := 8) (v := ?_) rfl (by kernel_rfl) (by kernel_rfl) (by kernel_rfl) (fun _ _ _ h => h) (Or.inl ⟨by rfl, ?_⟩) (sK _ LE0.out) ?_
  rotate_left
  · (intro wS hSw; (try dsimp only at hSw); go_simp; try with_reducible rfl)
  simp only [Act.put, List.getElem_toArray, List.getElem_cons_zero, List.getElem_cons_succ, List.setIfInBounds_toArray, List.set_cons_zero, List.set_cons_succ]
  refine wpAnyH_take (i := 9) (v := ?_) rfl (by kernel_rfl) (by kernel_rfl) (by kernel_rfl) (fun _ _ _ h => h) (Or.inl ⟨by rfl, ?_⟩) (sK _ LE0.out) ?_
  rotate_left
  · (intro wS hSw; (try dsimp only at hSw); go_simp; try with_reducible rfl)
  simp only [Act.put, List.getElem_toArray, List.getElem_cons_zero, List.getElem_cons_succ, List.setIfInBounds_toArray, List.set_cons_zero, List.set_cons_succ]
  refine wpAnyH_done (by kernel_rfl) ?_ _
  go_wp2_with fail
  refine bodyPost_ret (v := .tuple #[.slice A 0 c, .bool true]) (by simp [results, Try.results13, go_sem]) rfl ⟨_, v, [], [], rfl, STE.out.none ((Fr.refl _ V1).drew), (Fr.refl _ w).below E0.out, newV.refl _ _, by simp⟩
set_option maxRecDepth 100000 in
set_option maxHeartbeats 20000000 in
theorem step_popn4 {B g : Nat} {v lv : Value} {X M : List Ent} {kind t d f m : Int} {w : World} (hst : StP B w g v X lv M) (hl : M.length ≤ 500) (h0 : 0 ≤ kind) (hkm : kind % 6 = m) (hm : m = 4) (hM : M = []) (hx : WfE (t, d, f)) (hkw : (Lit.int .i64 kind).wf = true) :
    Calls Try.prog 13 #[.pointer (some ⟨g, 0, none⟩), lv, .agg #[.int .i64 kind, .int .i64 t, .int .i64 d, .int .i64 f]] w (StepR B g v M w) := by
  obtain ⟨hk1, hk2⟩ := bounds_i64 hkw
  have hr1 : IntKind.i64.wrap (Int.tmod kind 6) = m := by rw [Int.tmod_eq_emod_of_nonneg h0, hkm]; exact IntWalk.i64_in _ (by omega)
  have hr2 : wrap64 (kind % 6) = m := by rw [hkm]; exact IntWalk.wrap64_in _ (by omega)
  have ST0 := Lib.hid (hst.none ((Fr.refl _ w).alloc (.cells #[.int .i64 kind, .int .i64 t, .int .i64 d, .int .i64 f] 35)))
  have BO := Blk.new w #[.int .i64 kind, .int .i64 t, .int .i64 d, .int .i64 f] 35
  have HBO := Lib.hid BO
  have EE : Hid (Below w.heap.size w (w.alloc (.cells #[.int .i64 kind, .int .i64 t, .int .i64 d, .int .i64 f] 35))) := Lib.hid ((Below.refl w.heap.size w).alloc (Nat.le_refl _) _)
  have c0 := BO.cell 0
  have c1 := BO.cell 1
  have c2 := BO.cell 2
  have c3 := BO.cell 3
  have hgl := hst.1.1.lt
  have HVL : Hid (∀ i, v.ownBlock = some i → i < w.heap.size) := Lib.hid (fun i hi => (hst.1.2.2.2.1.lt i hi).2)
  have HM := Lib.hid hl; have HX := Lib.hid hx
  have hbn : ¬ hpS g v w.heap.size := fun h => h.elim (fun e => by omega) (fun e => absurd (HVL.out _ e) (by omega))
  have HBN := Lib.hid hbn
  have HST := Lib.hid hst
  subst hm
  subst hM
  obtain rfl : X = [] := (List.nil_perm.1 hst.2.1)
  have KP := Lib.hid (pop_nil ST0.out.1)
  obtain ⟨A, c, rfl⟩ : ∃ A c, lv = .slice A 0 c := by obtain ⟨A, c, h, _⟩ := hst.2.2.2.1; exact ⟨A, c, h⟩
  clear hst hl BO hbn hx hk1 hk2 hkw hr1 hr2
  go_enter Try.func13, Try.ntmps13
  go_wp2_with fail
  refine KP.out.mono ?_
  rintro e w1 ⟨rfl, hb⟩
  have E1 := Lib.hid (EE.out.trans (hb.mono EE.out.size))
  have STE : Hid (StP B (w1.alloc (.cells #[.int .i64 0, .int .i64 0, .int .i64 0] 24)) g v [] (.slice A 0 c) []) := Lib.hid ((ST0.out.below hb).none ((Fr.refl _ w1).alloc _))
  have BE : Blk (w1.alloc (.cells #[.int .i64 0, .int .i64 0, .int .i64 0] 24)) w1.heap.size 24 #[.int .i64 0, .int .i64 0, .int .i64 0] := Blk.new w1 _ _
  have EB : Below w.heap.size w (w1.alloc (.cells #[.int .i64 0, .int .i64 0, .int .i64 0] 24)) := E1.out.alloc E1.out.size _
  clear hb KP
  go_wp2_with fail
  obtain ⟨g1, hg1⟩ : ∃ g, w1.heap.size = g := ⟨_, rfl⟩
  obtain ⟨V1, hV1⟩ : ∃ V, (w1.alloc (.cells #[.int .i64 0, .int .i64 0, .int .i64 0] 24)) = V := ⟨_, rfl⟩
  rw [hg1] at BE ⊢
  rw [hV1] at BE STE EB ⊢
  have HE := Lib.hid BE; have EE := Lib.hid EB
  clear BE EB hV1 hg1
  have kE0 : V1.cell? ⟨g1, 0, none⟩ = some (.int .i64 0) := HE.out.cell 0
  have kE1 : V1.cell? ⟨g1, 1, none⟩ = some (.int .i64 0) := HE.out.cell 1
  have kE2 : V1.cell? ⟨g1, 2, none⟩ = some (.int .i64 0) := HE.out.cell 2
  go_wp2_with fail
  have sK : ∀ X, Blk X (g1) 24 #[.int .i64 0, .int .i64 0, .int .i64 0] → (fun X => X.cell? ⟨g1, 0, none⟩ = some (.int .i64 0) ∧ X.cell? ⟨g1, 1, none⟩ = some (.int .i64 0) ∧ X.cell? ⟨g1, 2, none⟩ = some (.int .i64 0)) X := fun X hE => ⟨hE.cell 0, hE.cell 1, hE.cell 2⟩
  have LE0 := Lib.hid (HE.out.drew)
  have E0 := Lib.hid (EE.out.drew)
  clear kE0 kE1 kE2
  refine wp_region_held_drew (S := (fun X => X.cell? ⟨g1, 0, none⟩ = some (.int .i64 0) ∧ X.cell? ⟨g1, 1, none⟩ = some (.int .i64 0) ∧ X.cell? ⟨g1, 2, none⟩ = some (.int .i64 0))) (by kernel_rfl) (sK _ LE0.out) (fun hHeld => ?_)
  clear hHeld
  refine wpAnyH_take (i := 0) (v := ?_) rfl (by kernel_rfl) (by kernel_rfl) (by kernel_rfl) (fun _ _ _ h => h) (Or.inl ⟨by rfl, ?_⟩) (sK _ LE0.out) ?_
  rotate_left
  · (intro wS hSw; (try dsimp only at hSw); go_simp; try with_reducible rfl)
  simp only [Act.put, List.getElem_toArray, List.getElem_cons_zero, List.getElem_cons_succ, List.setIfInBounds_toArray, List.set_cons_zero, List.set_cons_succ]
  refine wpAnyH_take (i := 1) (v := ?_) rfl (by kernel_rfl) (by kernel_rfl) (by kernel_rfl) (fun _ _ _ h => h) (Or.inl ⟨by rfl, ?_⟩) (sK _ LE0.out) ?_
  rotate_left
  · (intro wS hSw; (try dsimp only at hSw); go_simp; try with_reducible rfl)
  simp only [Act.put, List.getElem_toArray, List.getElem_cons_zero, List.getElem_cons_succ, List.setIfInBounds_toArray, List.set_cons_zero, List.set_cons_succ]
  refine wpAnyH_take (i := 2) (v := ?_) rfl (by kernel_rfl) (by kernel_rfl) (by kernel_rfl) (fun _ _ _ h => h) (Or.inl ⟨by rfl, ?_⟩) (sK _ LE0.out) ?_
  rotate_left
  · (intro wS hSw; (try dsimp only at hSw); go_simp; try with_reducible rfl)
  simp only [Act.put, List.getElem_toArray, List.getElem_cons_zero, List.getElem_cons_succ, List.setIfInBounds_toArray, List.set_cons_zero, List.set_cons_succ]
  refine wpAnyH_take (i := 3) (v := ?_) rfl (by kernel_rfl) (by kernel_rfl) (by kernel_rfl) (fun _ _ _ h => h) (Or.inl ⟨by rfl, ?_⟩) (sK _ LE0.out) ?_
  rotate_left
  · (intro wS hSw; (try dsimp only at hSw); go_simp; try with_reducible rfl)
  simp only [Act.put, List.getElem_toArray, List.getElem_cons_zero, List.getElem_cons_succ, List.setIfInBounds_toArray, List.set_cons_zero, List.set_cons_succ]
  refine wpAnyH_take (i := 4) (v := ?_) rfl (by kernel_rfl) (by kernel_rfl) (by kernel_rfl) (fun _ _ _ h => h) (Or.inl ⟨by rfl, ?_⟩) (sK _ LE0.out) ?_
  rotate_left
  · (intro wS hSw; (try dsimp only at hSw); go_simp; try with_reducible rfl)
  simp only [Act.put, List.getElem_toArray, List.getElem_cons_zero, List.getElem_cons_succ, List.setIfInBounds_toArray, List.set_cons_zero, List.set_cons_succ]
  refine wpAnyH_take (i := 5) (v := ?_) rfl (by kernel_rfl) (by kernel_rfl) (by kernel_rfl) (fun _ _ _ h => h) (Or.inl ⟨by rfl, ?_⟩) (sK _ LE0.out) ?_
  rotate_left
  · (intro wS hSw; (try dsimp only at hSw); go_simp; try with_reducible rfl)
  simp only [Act.put, List.getElem_toArray, List.getElem_cons_zero, List.getElem_cons_succ, List.setIfInBounds_toArray, List.set_cons_zero, List.set_cons_succ]
  refine wpAnyH_take (i := 6) (v := ?_) rfl (by kernel_rfl) (by kernel_rfl) (by kernel_rfl) (fun _ _ _ h => h) (Or.inl ⟨by rfl, ?_⟩) (sK _ LE0.out) ?_
  rotate_left
  · (intro wS hSw; (try dsimp only at hSw); go_simp; try with_reducible rfl)
  simp only [Act.put, List.getElem_toArray, List.getElem_cons_zero, List.getElem_cons_succ, List.setIfInBounds_toArray, List.set_cons_zero, List.set_cons_succ]
  refine wpAnyH_take (i := 7) (v := ?_) rfl (by kernel_rfl) (by kernel_rfl) (by kernel_rfl) (fun _ _ _ h => h) (Or.inl ⟨by rfl, ?_⟩) (sK _ LE0.out) ?_
  rotate_left
  · (intro wS hSw; (try dsimp only at hSw); go_simp; try with_reducible rfl)
  simp only [Act.put, List.getElem_toArray, List.getElem_cons_zero, List.getElem_cons_succ, List.setIfInBounds_toArray, List.set_cons_zero, List.set_cons_succ]
  refine wpAnyH_take (i := 8) (v := ?_) rfl (by kernel_rfl) (by kernel_rfl) (by kernel_rfl) (fun _ _ _ h => h) (Or.inl ⟨by rfl, ?_⟩) (sK _ LE0.out) ?_
  rotate_left
  · (intro wS hSw; (try dsimp only at hSw); go_simp; try with_reducible rfl)
  simp only [Act.put, List.getElem_toArray, List.getElem_cons_zero, List.getElem_cons_succ, List.setIfInBounds_toArray, List.set_cons_zero, List.set_cons_succ]
  refine wpAnyH_take (i := 9) (v := ?_) rfl (by kernel_rfl) (by kernel_rfl) (by kernel_rfl) (fun _ _ _ h => h) (Or.inl ⟨by rfl, ?_⟩) (sK _ LE0.out) ?_
  rotate_left
  · (intro wS hSw; (try dsimp only at hSw); go_simp; try with_reducible rfl)
  simp only [Act.put, List.getElem_toArray, List.getElem_cons_zero, List.getElem_cons_succ, List.setIfInBounds_toArray, List.set_cons_zero, List.set_cons_succ]
  refine wpAnyH_done (by kernel_rfl) ?_ _
  go_wp2_with fail
  refine bodyPost_ret (v := .tuple #[.slice A 0 c, .bool true]) (by simp [results, Try.results13, go_sem]) rfl ⟨_, v, [], [], rfl, STE.out.none ((Fr.refl _ V1).drew), (Fr.refl _ w).below E0.out, newV.refl _ _, by simp⟩
set_option maxRecDepth 100000 in
set_option maxHeartbeats 20000000 in
theorem step_pops3 {B g : Nat} {v lv : Value} {X M : List Ent} {kind t d f m : Int} {w : World} (hst : StP B w g v X lv M) (hl : M.length ≤ 500) (h0 : 0 ≤ kind) (hkm : kind % 6 = m) (hm : m = 3) (hM : 0 < M.length) (hx : WfE (t, d, f)) (hkw : (Lit.int .i64 kind).wf = true) :
    Calls Try.prog 13 #[.pointer (some ⟨g, 0, none⟩), lv, .agg #[.int .i64 kind, .int .i64 t, .int .i64 d, .int .i64 f]] w (StepR B g v M w) := by
  obtain ⟨hk1, hk2⟩ := bounds_i64 hkw
  have hr1 : IntKind.i64.wrap (Int.tmod kind 6) = m := by rw [Int.tmod_eq_emod_of_nonneg h0, hkm]; exact IntWalk.i64_in _ (by omega)
  have hr2 : wrap64 (kind % 6) = m := by rw [hkm]; exact IntWalk.wrap64_in _ (by omega)
  have ST0 := Lib.hid (hst.none ((Fr.refl _ w).alloc (.cells #[.int .i64 kind, .int .i64 t, .int .i64 d, .int .i64 f] 35)))
  have BO := Blk.new w #[.int .i64 kind, .int .i64 t, .int .i64 d, .int .i64 f] 35
  have HBO := Lib.hid BO
  have EE : Hid (Below w.heap.size w (w.alloc (.cells #[.int .i64 kind, .int .i64 t, .int .i64 d, .int .i64 f] 35))) := Lib.hid ((Below.refl w.heap.size w).alloc (Nat.le_refl _) _)
  have c0 := BO.cell 0
  have c1 := BO.cell 1
  have c2 := BO.cell 2
  have c3 := BO.cell 3
  have hgl := hst.1.1.lt
  have HVL : Hid (∀ i, v.ownBlock = some i → i < w.heap.size) := Lib.hid (fun i hi => (hst.1.2.2.2.1.lt i hi).2)
  have HM := Lib.hid hl; have HX := Lib.hid hx
  have hbn : ¬ hpS g v w.heap.size := fun h => h.elim (fun e => by omega) (fun e => absurd (HVL.out _ e) (by omega))
  have HBN := Lib.hid hbn
  have HST := Lib.hid hst
  subst hm
  have hXl := hst.2.1.length_eq
  have hep := heap_of hst.1 hst.2.1 hst.2.2.1
  have HCT := Lib.hid (heap_cut hst.1 hst.2.1 hst.2.2.1 (by omega))
  have HOM := Lib.hid hst.2.2.1
  have KP := Lib.hid (pop_some B g v X _ ST0.out.1 (by omega) (by omega))
  rw [hep] at KP
  obtain ⟨A, c, rfl, hr, hi1, hi2, hi3⟩ := hst.2.2.2.1
  obtain ⟨b, o, rfl, _, _⟩ := rdZ_row hr (by omega) hM
  have hsp := hst.2.2.2.2
  have his := ST0.out.2.2.2.1
  obtain ⟨n, hn⟩ : ∃ n, M.length = n := ⟨_, rfl⟩
  have HMN := Lib.hid hn
  rw [hn] at hsp his hM hi1 hl ⊢
  have HSP := Lib.hid hsp; have HIS := Lib.hid his
  have h0n : 0 < n := hM
  have hni : (1 : Int) ≤ (n : Int) := by omega
  have h0i : (0 : Int) < (n : Int) := by omega
  have hcc : 1 ≤ c := by omega
  have hcci : (1 : Int) ≤ (c : Int) := by omega
  have hnci : (n : Int) ≤ (c : Int) := by omega
  have hnz : ((n : Int) == 0) = false := by simp; omega
  have e0 : eE M 0 = (zE M 0 0, zE M 0 1, zE M 0 2) := rfl
  obtain ⟨p, hp0⟩ : ∃ x, zE M 0 0 = x := ⟨_, rfl⟩
  obtain ⟨q, hq0⟩ : ∃ x, zE M 0 1 = x := ⟨_, rfl⟩
  obtain ⟨s, hs0⟩ : ∃ x, zE M 0 2 = x := ⟨_, rfl⟩
  rw [hp0, hq0, hs0] at e0
  have HC := Lib.hid e0
  rw [e0] at KP
  unfold aE at KP
  dsimp only at KP
  clear hXl hep hsp his hn hM e0 hp0 hq0 hs0 hr hi3
  clear hst hl BO hbn hx hk1 hk2 hkw hr1 hr2
  go_enter Try.func13, Try.ntmps13
  go_wp2_with fail
  refine KP.out.mono ?_
  rintro e w1 ⟨rfl, v1, X1, hp, hh, hf, hs⟩
  have FF : Hid (Fr (hpS g v) w w1) := Lib.hid (((Fr.refl (hpS g v) w).below EE.out).trans hf (fun i _ q => q))
  have HI1 : Hid (IsE w1 (.slice (some ⟨b, o, none⟩) n c) M) := Lib.hid (HIS.out.fr hf (fun a n c e h => h.elim (fun q => (HSP.out a n c e).1 q) (fun q => (HSP.out a n c e).2 q)))
  have HP := Lib.hid hp; have HH := Lib.hid (hh.fr (S := fun _ => False) ((Fr.refl _ w1).alloc (.cells #[.int .i64 p, .int .i64 q, .int .i64 s] 24)) (fun q => q) (fun _ _ q => q)); have HS := Lib.hid hs
  have BE : Blk (w1.alloc (.cells #[.int .i64 p, .int .i64 q, .int .i64 s] 24)) w1.heap.size 24 #[.int .i64 p, .int .i64 q, .int .i64 s] := Blk.new w1 _ _
  have HI2 : IsE (w1.alloc (.cells #[.int .i64 p, .int .i64 q, .int .i64 s] 24)) (.slice (some ⟨b, o, none⟩) n c) M := HI1.out.kept ((Below.refl _ _).alloc (Nat.le_refl _) _)
  have FX : Fr (hpS g v) w (w1.alloc (.cells #[.int .i64 p, .int .i64 q, .int .i64 s] 24)) := FF.out.alloc _
  clear hp hh hf hs KP
  go_wp2_with fail
  obtain ⟨g1, hg1⟩ : ∃ g, w1.heap.size = g := ⟨_, rfl⟩
  obtain ⟨V1, hV1⟩ : ∃ V, (w1.alloc (.cells #[.int .i64 p, .int .i64 q, .int .i64 s] 24)) = V := ⟨_, rfl⟩
  rw [hg1] at BE ⊢
  rw [hV1] at BE HI2 FX HH ⊢
  have HE := Lib.hid BE; have HI3 := Lib.hid HI2; have FX1 := Lib.hid FX
  have EE : Hid (Below V1.heap.size V1 V1) := Lib.hid (Below.refl _ _)
  have HA := Lib.hid (isE_head HI2 h0n HC.out)
  clear BE HI2 FX hV1 hg1
  by_cases hc1 : 1 < c
  · have hci : (1 : Int) < (c : Int) := by omega
    have kE0 : V1.cell? ⟨g1, 0, none⟩ = some (.int .i64 p) := HE.out.cell 0
    have kE1 : V1.cell? ⟨g1, 1, none⟩ = some (.int .i64 q) := HE.out.cell 1
    have kE2 : V1.cell? ⟨g1, 2, none⟩ = some (.int .i64 s) := HE.out.cell 2
    have kA0 : V1.cell? ⟨b, o, none⟩ = some (.int .i64 p) := HA.out 0 _ rfl
    have kA1 : V1.cell? ⟨b, o + 1, none⟩ = some (.int .i64 q) := HA.out 1 _ rfl
    have kA2 : V1.cell? ⟨b, o + 2, none⟩ = some (.int .i64 s) := HA.out 2 _ rfl
    go_wp2_with fail
    have sK : ∀ X, Blk X (g1) 24 #[.int .i64 p, .int .i64 q, .int .i64 s] → At X b (o) #[.int .i64 p, .int .i64 q, .int .i64 s] → (fun X => X.cell? ⟨g1, 0, none⟩ = some (.int .i64 p) ∧ X.cell? ⟨g1, 1, none⟩ = some (.int .i64 q) ∧ X.cell? ⟨g1, 2, none⟩ = some (.int .i64 s) ∧ X.cell? ⟨b, o, none⟩ = some (.int .i64 p) ∧ X.cell? ⟨b, o + 1, none⟩ = some (.int .i64 q) ∧ X.cell? ⟨b, o + 2, none⟩ = some (.int .i64 s)) X := fun X hE hA => ⟨hE.cell 0, hE.cell 1, hE.cell 2, hA 0 _ rfl, hA 1 _ rfl, hA 2 _ rfl⟩
    have LE0 := Lib.hid (HE.out.drew)
    have LA0 := Lib.hid (HA.out.drew)
    have E0 := Lib.hid (EE.out.drew)
    clear kE0 kE1 kE2 kA0 kA1 kA2
    refine wp_region_held_drew (S := (fun X => X.cell? ⟨g1, 0, none⟩ = some (.int .i64 p) ∧ X.cell? ⟨g1, 1, none⟩ = some (.int .i64 q) ∧ X.cell? ⟨g1, 2, none⟩ = some (.int .i64 s) ∧ X.cell? ⟨b, o, none⟩ = some (.int .i64 p) ∧ X.cell? ⟨b, o + 1, none⟩ = some (.int .i64 q) ∧ X.cell? ⟨b, o + 2, none⟩ = some (.int .i64 s))) (by kernel_rfl) (sK _ LE0.out LA0.out) (fun hHeld => ?_)
    clear hHeld
    refine wpAnyH_take (i := 0) (v := ?_) rfl (by kernel_rfl) (by kernel_rfl) (by kernel_rfl) (fun _ _ _ h => h) (Or.inl ⟨by rfl, ?_⟩) (sK _ LE0.out LA0.out) ?_
    rotate_left
    · (intro wS hSw; (try dsimp only at hSw); go_simp; try with_reducible rfl)
    simp only [Act.put, List.getElem_toArray, List.getElem_cons_zero, List.getElem_cons_succ, List.setIfInBounds_toArray, List.set_cons_zero, List.set_cons_succ]
    refine wpAnyH_take (i := 1) (v := ?_) rfl (by kernel_rfl) (by kernel_rfl) (by kernel_rfl) (fun _ _ _ h => h) (Or.inl ⟨by rfl, ?_⟩) (sK _ LE0.out LA0.out) ?_
    rotate_left
    · (intro wS hSw; (try dsimp only at hSw); go_simp; try with_reducible rfl)
    simp only [Act.put, List.getElem_toArray, List.getElem_cons_zero, List.getElem_cons_succ, List.setIfInBounds_toArray, List.set_cons_zero, List.set_cons_succ]
    refine wpAnyH_take (i := 2) (v := ?_) rfl (by kernel_rfl) (by kernel_rfl) (by kernel_rfl) (fun _ _ _ h => h) (Or.inl ⟨by rfl, ?_⟩) (sK _ LE0.out LA0.out) ?_
    rotate_left
    · (intro wS hSw; (try dsimp only at hSw); go_simp; try with_reducible rfl)
    simp only [Act.put, List.getElem_toArray, List.getElem_cons_zero, List.getElem_cons_succ, List.setIfInBounds_toArray, List.set_cons_zero, List.set_cons_succ]
    refine wpAnyH_take (i := 3) (v := ?_) rfl (by kernel_rfl) (by kernel_rfl) (by kernel_rfl) (fun _ _ _ h => h) (Or.inl ⟨by rfl, ?_⟩) (sK _ LE0.out LA0.out) ?_
    rotate_left
    · (intro wS hSw; (try dsimp only at hSw); go_simp; try with_reducible rfl)
    simp only [Act.put, List.getElem_toArray, List.getElem_cons_zero, List.getElem_cons_succ, List.setIfInBounds_toArray, List.set_cons_zero, List.set_cons_succ]
    refine wpAnyH_take (i := 4) (v := ?_) rfl (by kernel_rfl) (by kernel_rfl) (by kernel_rfl) (fun _ _ _ h => h) (Or.inl ⟨by rfl, ?_⟩) (sK _ LE0.out LA0.out) ?_
    rotate_left
    · (intro wS hSw; (try dsimp only at hSw); go_simp; try with_reducible rfl)
    simp only [Act.put, List.getElem_toArray, List.getElem_cons_zero, List.getElem_cons_succ, List.setIfInBounds_toArray, List.set_cons_zero, List.set_cons_succ]
    refine wpAnyH_take (i := 5) (v := ?_) rfl (by kernel_rfl) (by kernel_rfl) (by kernel_rfl) (fun _ _ _ h => h) (Or.inl ⟨by rfl, ?_⟩) (sK _ LE0.out LA0.out) ?_
    rotate_left
    · (intro wS hSw; (try dsimp only at hSw); go_simp; try with_reducible rfl)
    simp only [Act.put, List.getElem_toArray, List.getElem_cons_zero, List.getElem_cons_succ, List.setIfInBounds_toArray, List.set_cons_zero, List.set_cons_succ]
    refine wpAnyH_take (i := 6) (v := ?_) rfl (by kernel_rfl) (by kernel_rfl) (by kernel_rfl) (fun _ _ _ h => h) (Or.inl ⟨by rfl, ?_⟩) (sK _ LE0.out LA0.out) ?_
    rotate_left
    · (intro wS hSw; (try dsimp only at hSw); go_simp; try with_reducible rfl)
    simp only [Act.put, List.getElem_toArray, List.getElem_cons_zero, List.getElem_cons_succ, List.setIfInBounds_toArray, List.set_cons_zero, List.set_cons_succ]
    refine wpAnyH_take (i := 7) (v := ?_) rfl (by kernel_rfl) (by kernel_rfl) (by kernel_rfl) (fun _ _ _ h => h) (Or.inl ⟨by rfl, ?_⟩) (sK _ LE0.out LA0.out) ?_
    rotate_left
    · (intro wS hSw; (try dsimp only at hSw); go_simp; try with_reducible rfl)
    simp only [Act.put, List.getElem_toArray, List.getElem_cons_zero, List.getElem_cons_succ, List.setIfInBounds_toArray, List.set_cons_zero, List.set_cons_succ]
    refine wpAnyH_take (i := 8) (v := ?_) rfl (by kernel_rfl) (by kernel_rfl) (by kernel_rfl) (fun _ _ _ h => h) (Or.inl ⟨by rfl, ?_⟩) (sK _ LE0.out LA0.out) ?_
    rotate_left
    · (intro wS hSw; (try dsimp only at hSw); go_simp; try with_reducible rfl)
    simp only [Act.put, List.getElem_toArray, List.getElem_cons_zero, List.getElem_cons_succ, List.setIfInBounds_toArray, List.set_cons_zero, List.set_cons_succ]
    refine wpAnyH_take (i := 9) (v := ?_) rfl (by kernel_rfl) (by kernel_rfl) (by kernel_rfl) (fun _ _ _ h => h) (Or.inl ⟨by rfl, ?_⟩) (sK _ LE0.out LA0.out) ?_
    rotate_left
    · (intro wS hSw; (try dsimp only at hSw); go_simp; try with_reducible rfl)
    simp only [Act.put, List.getElem_toArray, List.getElem_cons_zero, List.getElem_cons_succ, List.setIfInBounds_toArray, List.set_cons_zero, List.set_cons_succ]
    refine wpAnyH_take (i := 10) (v := ?_) rfl (by kernel_rfl) (by kernel_rfl) (by kernel_rfl) (fun _ _ _ h => h) (Or.inl ⟨by rfl, ?_⟩) (sK _ LE0.out LA0.out) ?_
    rotate_left
    · (intro wS hSw; (try dsimp only at hSw); go_simp; try with_reducible rfl)
    simp only [Act.put, List.getElem_toArray, List.getElem_cons_zero, List.getElem_cons_succ, List.setIfInBounds_toArray, List.set_cons_zero, List.set_cons_succ]
    refine wpAnyH_take (i := 11) (v := ?_) rfl (by kernel_rfl) (by kernel_rfl) (by kernel_rfl) (fun _ _ _ h => h) (Or.inl ⟨by rfl, ?_⟩) (sK _ LE0.out LA0.out) ?_
    rotate_left
    · (intro wS hSw; (try dsimp only at hSw); go_simp; try with_reducible rfl)
    simp only [Act.put, List.getElem_toArray, List.getElem_cons_zero, List.getElem_cons_succ, List.setIfInBounds_toArray, List.set_cons_zero, List.set_cons_succ]
    refine wpAnyH_done (by kernel_rfl) ?_ _
    clear LE0 LA0
    go_wp2_with fail
    refine bodyPost_ret (v := .tuple #[(.slice (some ⟨b, o + 3, none⟩) (n - 1) (c - 1)), .bool true]) (by simp [results, Try.results13, go_sem]) rfl ⟨_, v1, X1, M.drop 1, rfl, ⟨HH.out.fr (S := fun _ => False) (Fr.refl _ _).drew (fun q => q) (fun _ _ q => q), (HP.out.trans HCT.out).symm, ord_drop HOM.out 1, isE_tail HI3.out (by omega) hc1, fun a n c e => ?_⟩, FX1.out.drew, fun i hi => Or.inl (HS.out i hi), by rw [List.length_drop]; omega⟩
    have hb : a.block = b := by simp at e; rw [← e.1]
    rw [hb]
    exact ⟨fun q => (HSP.out ⟨b, o, none⟩ _ _ rfl).1 q, fun q => (HSP.out ⟨b, o, none⟩ _ _ rfl).2 (HS.out _ q)⟩
  · obtain rfl : c = 1 := by omega
    obtain rfl : n = 1 := by omega
    have kE0 : V1.cell? ⟨g1, 0, none⟩ = some (.int .i64 p) := HE.out.cell 0
    have kE1 : V1.cell? ⟨g1, 1, none⟩ = some (.int .i64 q) := HE.out.cell 1
    have kE2 : V1.cell? ⟨g1, 2, none⟩ = some (.int .i64 s) := HE.out.cell 2
    have kA0 : V1.cell? ⟨b, o, none⟩ = some (.int .i64 p) := HA.out 0 _ rfl
    have kA1 : V1.cell? ⟨b, o + 1, none⟩ = some (.int .i64 q) := HA.out 1 _ rfl
    have kA2 : V1.cell? ⟨b, o + 2, none⟩ = some (.int .i64 s) := HA.out 2 _ rfl
    go_wp2_with fail
    have sK : ∀ X, Blk X (g1) 24 #[.int .i64 p, .int .i64 q, .int .i64 s] → At X b (o) #[.int .i64 p, .int .i64 q, .int .i64 s] → (fun X => X.cell? ⟨g1, 0, none⟩ = some (.int .i64 p) ∧ X.cell? ⟨g1, 1, none⟩ = some (.int .i64 q) ∧ X.cell? ⟨g1, 2, none⟩ = some (.int .i64 s) ∧ X.cell? ⟨b, o, none⟩ = some (.int .i64 p) ∧ X.cell? ⟨b, o + 1, none⟩ = some (.int .i64 q) ∧ X.cell? ⟨b, o + 2, none⟩ = some (.int .i64 s)) X := fun X hE hA => ⟨hE.cell 0, hE.cell 1, hE.cell 2, hA 0 _ rfl, hA 1 _ rfl, hA 2 _ rfl⟩
    have LE0 := Lib.hid (HE.out.drew)
    have LA0 := Lib.hid (HA.out.drew)
    have E0 := Lib.hid (EE.out.drew)
    clear kE0 kE1 kE2 kA0 kA1 kA2
    refine wp_region_held_drew (S := (fun X => X.cell? ⟨g1, 0, none⟩ = some (.int .i64 p) ∧ X.cell? ⟨g1, 1, none⟩ = some (.int .i64 q) ∧ X.cell? ⟨g1, 2, none⟩ = some (.int .i64 s) ∧ X.cell? ⟨b, o, none⟩ = some (.int .i64 p) ∧ X.cell? ⟨b, o + 1, none⟩ = some (.int .i64 q) ∧ X.cell? ⟨b, o + 2, none⟩ = some (.int .i64 s))) (by kernel_rfl) (sK _ LE0.out LA0.out) (fun hHeld => ?_)
    clear hHeld
    refine wpAnyH_take (i := 0) (v := ?_) rfl (by kernel_rfl) (by kernel_rfl) (by kernel_rfl) (fun _ _ _ h => h) (Or.inl ⟨by rfl, ?_⟩) (sK _ LE0.out LA0.out) ?_
    rotate_left
    · (intro wS hSw; (try dsimp only at hSw); go_simp; try with_reducible rfl)
    simp only [Act.put, List.getElem_toArray, List.getElem_cons_zero, List.getElem_cons_succ, List.setIfInBounds_toArray, List.set_cons_zero, List.set_cons_succ]
    refine wpAnyH_take (i := 1) (v := ?_) rfl (by kernel_rfl) (by kernel_rfl) (by kernel_rfl) (fun _ _ _ h => h) (Or.inl ⟨by rfl, ?_⟩) (sK _ LE0.out LA0.out) ?_
    rotate_left
    · (intro wS hSw; (try dsimp only at hSw); go_simp; try with_reducible rfl)
    simp only [Act.put, List.getElem_toArray, List.getElem_cons_zero, List.getElem_cons_succ, List.setIfInBounds_toArray, List.set_cons_zero, List.set_cons_succ]
    refine wpAnyH_take (i := 2) (v := ?_) rfl (by kernel_rfl) (by kernel_rfl) (by kernel_rfl) (fun _ _ _ h => h) (Or.inl ⟨by rfl, ?_⟩) (sK _ LE0.out LA0.out) ?_
    rotate_left
    · (intro wS hSw; (try dsimp only at hSw); go_simp; try with_reducible rfl)
    simp only [Act.put, List.getElem_toArray, List.getElem_cons_zero, List.getElem_cons_succ, List.setIfInBounds_toArray, List.set_cons_zero, List.set_cons_succ]
    refine wpAnyH_take (i := 3) (v := ?_) rfl (by kernel_rfl) (by kernel_rfl) (by kernel_rfl) (fun _ _ _ h => h) (Or.inl ⟨by rfl, ?_⟩) (sK _ LE0.out LA0.out) ?_
    rotate_left
    · (intro wS hSw; (try dsimp only at hSw); go_simp; try with_reducible rfl)
    simp only [Act.put, List.getElem_toArray, List.getElem_cons_zero, List.getElem_cons_succ, List.setIfInBounds_toArray, List.set_cons_zero, List.set_cons_succ]
    refine wpAnyH_take (i := 4) (v := ?_) rfl (by kernel_rfl) (by kernel_rfl) (by kernel_rfl) (fun _ _ _ h => h) (Or.inl ⟨by rfl, ?_⟩) (sK _ LE0.out LA0.out) ?_
    rotate_left
    · (intro wS hSw; (try dsimp only at hSw); go_simp; try with_reducible rfl)
    simp only [Act.put, List.getElem_toArray, List.getElem_cons_zero, List.getElem_cons_succ, List.setIfInBounds_toArray, List.set_cons_zero, List.set_cons_succ]
    refine wpAnyH_take (i := 5) (v := ?_) rfl (by kernel_rfl) (by kernel_rfl) (by kernel_rfl) (fun _ _ _ h => h) (Or.inl ⟨by rfl, ?_⟩) (sK _ LE0.out LA0.out) ?_
    rotate_left
    · (intro wS hSw; (try dsimp only at hSw); go_simp; try with_reducible rfl)
    simp only [Act.put, List.getElem_toArray, List.getElem_cons_zero, List.getElem_cons_succ, List.setIfInBounds_toArray, List.set_cons_zero, List.set_cons_succ]
    refine wpAnyH_take (i := 6) (v := ?_) rfl (by kernel_rfl) (by kernel_rfl) (by kernel_rfl) (fun _ _ _ h => h) (Or.inl ⟨by rfl, ?_⟩) (sK _ LE0.out LA0.out) ?_
    rotate_left
    · (intro wS hSw; (try dsimp only at hSw); go_simp; try with_reducible rfl)
    simp only [Act.put, List.getElem_toArray, List.getElem_cons_zero, List.getElem_cons_succ, List.setIfInBounds_toArray, List.set_cons_zero, List.set_cons_succ]
    refine wpAnyH_take (i := 7) (v := ?_) rfl (by kernel_rfl) (by kernel_rfl) (by kernel_rfl) (fun _ _ _ h => h) (Or.inl ⟨by rfl, ?_⟩) (sK _ LE0.out LA0.out) ?_
    rotate_left
    · (intro wS hSw; (try dsimp only at hSw); go_simp; try with_reducible rfl)
    simp only [Act.put, List.getElem_toArray, List.getElem_cons_zero, List.getElem_cons_succ, List.setIfInBounds_toArray, List.set_cons_zero, List.set_cons_succ]
    refine wpAnyH_take (i := 8) (v := ?_) rfl (by kernel_rfl) (by kernel_rfl) (by kernel_rfl) (fun _ _ _ h => h) (Or.inl ⟨by rfl, ?_⟩) (sK _ LE0.out LA0.out) ?_
    rotate_left
    · (intro wS hSw; (try dsimp only at hSw); go_simp; try with_reducible rfl)
    simp only [Act.put, List.getElem_toArray, List.getElem_cons_zero, List.getElem_cons_succ, List.setIfInBounds_toArray, List.set_cons_zero, List.set_cons_succ]
    refine wpAnyH_take (i := 9) (v := ?_) rfl (by kernel_rfl) (by kernel_rfl) (by kernel_rfl) (fun _ _ _ h => h) (Or.inl ⟨by rfl, ?_⟩) (sK _ LE0.out LA0.out) ?_
    rotate_left
    · (intro wS hSw; (try dsimp only at hSw); go_simp; try with_reducible rfl)
    simp only [Act.put, List.getElem_toArray, List.getElem_cons_zero, List.getElem_cons_succ, List.setIfInBounds_toArray, List.set_cons_zero, List.set_cons_succ]
    refine wpAnyH_take (i := 10) (v := ?_) rfl (by kernel_rfl) (by kernel_rfl) (by kernel_rfl) (fun _ _ _ h => h) (Or.inl ⟨by rfl, ?_⟩) (sK _ LE0.out LA0.out) ?_
    rotate_left
    · (intro wS hSw; (try dsimp only at hSw); go_simp; try with_reducible rfl)
    simp only [Act.put, List.getElem_toArray, List.getElem_cons_zero, List.getElem_cons_succ, List.setIfInBounds_toArray, List.set_cons_zero, List.set_cons_succ]
    refine wpAnyH_take (i := 11) (v := ?_) rfl (by kernel_rfl) (by kernel_rfl) (by kernel_rfl) (fun _ _ _ h => h) (Or.inl ⟨by rfl, ?_⟩) (sK _ LE0.out LA0.out) ?_
    rotate_left
    · (intro wS hSw; (try dsimp only at hSw); go_simp; try with_reducible rfl)
    simp only [Act.put, List.getElem_toArray, List.getElem_cons_zero, List.getElem_cons_succ, List.setIfInBounds_toArray, List.set_cons_zero, List.set_cons_succ]
    refine wpAnyH_done (by kernel_rfl) ?_ _
    clear LE0 LA0
    go_wp2_with fail
    refine bodyPost_ret (v := .tuple #[(.slice (some ⟨b, o, none⟩) 0 0), .bool true]) (by simp [results, Try.results13, go_sem]) rfl ⟨_, v1, X1, M.drop 1, rfl, ⟨HH.out.fr (S := fun _ => False) (Fr.refl _ _).drew (fun q => q) (fun _ _ q => q), (HP.out.trans HCT.out).symm, ord_drop HOM.out 1, isE_tail1 HI3.out HMN.out, fun a n c e => ?_⟩, FX1.out.drew, fun i hi => Or.inl (HS.out i hi), by rw [List.length_drop]; omega⟩
    have hb : a.block = b := by simp at e; rw [← e.1]
    rw [hb]
    exact ⟨fun q => (HSP.out ⟨b, o, none⟩ _ _ rfl).1 q, fun q => (HSP.out ⟨b, o, none⟩ _ _ rfl).2 (HS.out _ q)⟩
set_option maxRecDepth 100000 in
set_option maxHeartbeats 20000000 in
theorem step_pops4 {B g : Nat} {v lv : Value} {X M : List Ent} {kind t d f m : Int} {w : World} (hst : StP B w g v X lv M) (hl : M.length ≤ 500) (h0 : 0 ≤ kind) (hkm : kind % 6 = m) (hm : m = 4) (hM : 0 < M.length) (hx : WfE (t, d, f)) (hkw : (Lit.int .i64 kind).wf = true) :
    Calls Try.prog 13 #[.pointer (some ⟨g, 0, none⟩), lv, .agg #[.int .i64 kind, .int .i64 t, .int .i64 d, .int .i64 f]] w (StepR B g v M w) := by
  obtain ⟨hk1, hk2⟩ := bounds_i64 hkw
  have hr1 : IntKind.i64.wrap (Int.tmod kind 6) = m := by rw [Int.tmod_eq_emod_of_nonneg h0, hkm]; exact IntWalk.i64_in _ (by omega)
  have hr2 : wrap64 (kind % 6) = m := by rw [hkm]; exact IntWalk.wrap64_in _ (by omega)
  have ST0 := Lib.hid (hst.none ((Fr.refl _ w).alloc (.cells #[.int .i64 kind, .int .i64 t, .int .i64 d, .int .i64 f] 35)))
  have BO := Blk.new w #[.int .i64 kind, .int .i64 t, .int .i64 d, .int .i64 f] 35
  have HBO := Lib.hid BO
  have EE : Hid (Below w.heap.size w (w.alloc (.cells #[.int .i64 kind, .int .i64 t, .int .i64 d, .int .i64 f] 35))) := Lib.hid ((Below.refl w.heap.size w).alloc (Nat.le_refl _) _)
  have c0 := BO.cell 0
  have c1 := BO.cell 1
  have c2 := BO.cell 2
  have c3 := BO.cell 3
  have hgl := hst.1.1.lt
  have HVL : Hid (∀ i, v.ownBlock = some i → i < w.heap.size) := Lib.hid (fun i hi => (hst.1.2.2.2.1.lt i hi).2)
  have HM := Lib.hid hl; have HX := Lib.hid hx
  have hbn : ¬ hpS g v w.heap.size := fun h => h.elim (fun e => by omega) (fun e => absurd (HVL.out _ e) (by omega))
  have HBN := Lib.hid hbn
  have HST := Lib.hid hst
  subst hm
  have hXl := hst.2.1.length_eq
  have hep := heap_of hst.1 hst.2.1 hst.2.2.1
  have HCT := Lib.hid (heap_cut hst.1 hst.2.1 hst.2.2.1 (by omega))
  have HOM := Lib.hid hst.2.2.1
  have KP := Lib.hid (pop_some B g v X _ ST0.out.1 (by omega) (by omega))
  rw [hep] at KP
  obtain ⟨A, c, rfl, hr, hi1, hi2, hi3⟩ := hst.2.2.2.1
  obtain ⟨b, o, rfl, _, _⟩ := rdZ_row hr (by omega) hM
  have hsp := hst.2.2.2.2
  have his := ST0.out.2.2.2.1
  obtain ⟨n, hn⟩ : ∃ n, M.length = n := ⟨_, rfl⟩
  have HMN := Lib.hid hn
  rw [hn] at hsp his hM hi1 hl ⊢
  have HSP := Lib.hid hsp; have HIS := Lib.hid his
  have h0n : 0 < n := hM
  have hni : (1 : Int) ≤ (n : Int) := by omega
  have h0i : (0 : Int) < (n : Int) := by omega
  have hcc : 1 ≤ c := by omega
  have hcci : (1 : Int) ≤ (c : Int) := by omega
  have hnci : (n : Int) ≤ (c : Int) := by omega
  have hnz : ((n : Int) == 0) = false := by simp; omega
  have e0 : eE M 0 = (zE M 0 0, zE M 0 1, zE M 0 2) := rfl
  obtain ⟨p, hp0⟩ : ∃ x, zE M 0 0 = x := ⟨_, rfl⟩
  obtain ⟨q, hq0⟩ : ∃ x, zE M 0 1 = x := ⟨_, rfl⟩
  obtain ⟨s, hs0⟩ : ∃ x, zE M 0 2 = x := ⟨_, rfl⟩
  rw [hp0, hq0, hs0] at e0
  have HC := Lib.hid e0
  rw [e0] at KP
  unfold aE at KP
  dsimp only at KP
  clear hXl hep hsp his hn hM e0 hp0 hq0 hs0 hr hi3
  clear hst hl BO hbn hx hk1 hk2 hkw hr1 hr2
  go_enter Try.func13, Try.ntmps13
  go_wp2_with fail
  refine KP.out.mono ?_
  rintro e w1 ⟨rfl, v1, X1, hp, hh, hf, hs⟩
  have FF : Hid (Fr (hpS g v) w w1) := Lib.hid (((Fr.refl (hpS g v) w).below EE.out).trans hf (fun i _ q => q))
  have HI1 : Hid (IsE w1 (.slice (some ⟨b, o, none⟩) n c) M) := Lib.hid (HIS.out.fr hf (fun a n c e h => h.elim (fun q => (HSP.out a n c e).1 q) (fun q => (HSP.out a n c e).2 q)))
  have HP := Lib.hid hp; have HH := Lib.hid (hh.fr (S := fun _ => False) ((Fr.refl _ w1).alloc (.cells #[.int .i64 p, .int .i64 q, .int .i64 s] 24)) (fun q => q) (fun _ _ q => q)); have HS := Lib.hid hs
  have BE : Blk (w1.alloc (.cells #[.int .i64 p, .int .i64 q, .int .i64 s] 24)) w1.heap.size 24 #[.int .i64 p, .int .i64 q, .int .i64 s] := Blk.new w1 _ _
  have HI2 : IsE (w1.alloc (.cells #[.int .i64 p, .int .i64 q, .int .i64 s] 24)) (.slice (some ⟨b, o, none⟩) n c) M := HI1.out.kept ((Below.refl _ _).alloc (Nat.le_refl _) _)
  have FX : Fr (hpS g v) w (w1.alloc (.cells #[.int .i64 p, .int .i64 q, .int .i64 s] 24)) := FF.out.alloc _
  clear hp hh hf hs KP
  go_wp2_with fail
  obtain ⟨g1, hg1⟩ : ∃ g, w1.heap.size = g := ⟨_, rfl⟩
  obtain ⟨V1, hV1⟩ : ∃ V, (w1.alloc (.cells #[.int .i64 p, .int .i64 q, .int .i64 s] 24)) = V := ⟨_, rfl⟩
  rw [hg1] at BE ⊢
  rw [hV1] at BE HI2 FX HH ⊢
  have HE := Lib.hid BE; have HI3 := Lib.hid HI2; have FX1 := Lib.hid FX
  have EE : Hid (Below V1.heap.size V1 V1) := Lib.hid (Below.refl _ _)
  have HA := Lib.hid (isE_head HI2 h0n HC.out)
  clear BE HI2 FX hV1 hg1
  by_cases hc1 : 1 < c
  · have hci : (1 : Int) < (c : Int) := by omega
    have kE0 : V1.cell? ⟨g1, 0, none⟩ = some (.int .i64 p) := HE.out.cell 0
    have kE1 : V1.cell? ⟨g1, 1, none⟩ = some (.int .i64 q) := HE.out.cell 1
    have kE2 : V1.cell? ⟨g1, 2, none⟩ = some (.int .i64 s) := HE.out.cell 2
    have kA0 : V1.cell? ⟨b, o, none⟩ = some (.int .i64 p) := HA.out 0 _ rfl
    have kA1 : V1.cell? ⟨b, o + 1, none⟩ = some (.int .i64 q) := HA.out 1 _ rfl
    have kA2 : V1.cell? ⟨b, o + 2, none⟩ = some (.int .i64 s) := HA.out 2 _ rfl
    go_wp2_with fail
    have sK : ∀ X, Blk X (g1) 24 #[.int .i64 p, .int .i64 q, .int .i64 s] → At X b (o) #[.int .i64 p, .int .i64 q, .int .i64 s] → (fun X => X.cell? ⟨g1, 0, none⟩ = some (.int .i64 p) ∧ X.cell? ⟨g1, 1, none⟩ = some (.int .i64 q) ∧ X.cell? ⟨g1, 2, none⟩ = some (.int .i64 s) ∧ X.cell? ⟨b, o, none⟩ = some (.int .i64 p) ∧ X.cell? ⟨b, o + 1, none⟩ = some (.int .i64 q) ∧ X.cell? ⟨b, o + 2, none⟩ = some (.int .i64 s)) X := fun X hE hA => ⟨hE.cell 0, hE.cell 1, hE.cell 2, hA 0 _ rfl, hA 1 _ rfl, hA 2 _ rfl⟩
    have LE0 := Lib.hid (HE.out.drew)
    have LA0 := Lib.hid (HA.out.drew)
    have E0 := Lib.hid (EE.out.drew)
    clear kE0 kE1 kE2 kA0 kA1 kA2
    refine wp_region_held_drew (S := (fun X => X.cell? ⟨g1, 0, none⟩ = some (.int .i64 p) ∧ X.cell? ⟨g1, 1, none⟩ = some (.int .i64 q) ∧ X.cell? ⟨g1, 2, none⟩ = some (.int .i64 s) ∧ X.cell? ⟨b, o, none⟩ = some (.int .i64 p) ∧ X.cell? ⟨b, o + 1, none⟩ = some (.int .i64 q) ∧ X.cell? ⟨b, o + 2, none⟩ = some (.int .i64 s))) (by kernel_rfl) (sK _ LE0.out LA0.out) (fun hHeld => ?_)
    clear hHeld
    refine wpAnyH_take (i := 0) (v := ?_) rfl (by kernel_rfl) (by kernel_rfl) (by kernel_rfl) (fun _ _ _ h => h) (Or.inl ⟨by rfl, ?_⟩) (sK _ LE0.out LA0.out) ?_
    rotate_left
    · (intro wS hSw; (try dsimp only at hSw); go_simp; try with_reducible rfl)
    simp only [Act.put, List.getElem_toArray, List.getElem_cons_zero, List.getElem_cons_succ, List.setIfInBounds_toArray, List.set_cons_zero, List.set_cons_succ]
    refine wpAnyH_take (i := 1) (v := ?_) rfl (by kernel_rfl) (by kernel_rfl) (by kernel_rfl) (fun _ _ _ h => h) (Or.inl ⟨by rfl, ?_⟩) (sK _ LE0.out LA0.out) ?_
    rotate_left
    · (intro wS hSw; (try dsimp only at hSw); go_simp; try with_reducible rfl)
    simp only [Act.put, List.getElem_toArray, List.getElem_cons_zero, List.getElem_cons_succ, List.setIfInBounds_toArray, List.set_cons_zero, List.set_cons_succ]
    refine wpAnyH_take (i := 2) (v := ?_) rfl (by kernel_rfl) (by kernel_rfl) (by kernel_rfl) (fun _ _ _ h => h) (Or.inl ⟨by rfl, ?_⟩) (sK _ LE0.out LA0.out) ?_
    rotate_left
    · (intro wS hSw; (try dsimp only at hSw); go_simp; try with_reducible rfl)
    simp only [Act.put, List.getElem_toArray, List.getElem_cons_zero, List.getElem_cons_succ, List.setIfInBounds_toArray, List.set_cons_zero, List.set_cons_succ]
    refine wpAnyH_take (i := 3) (v := ?_) rfl (by kernel_rfl) (by kernel_rfl) (by kernel_rfl) (fun _ _ _ h => h) (Or.inl ⟨by rfl, ?_⟩) (sK _ LE0.out LA0.out) ?_
    rotate_left
    · (intro wS hSw; (try dsimp only at hSw); go_simp; try with_reducible rfl)
    simp only [Act.put, List.getElem_toArray, List.getElem_cons_zero, List.getElem_cons_succ, List.setIfInBounds_toArray, List.set_cons_zero, List.set_cons_succ]
    refine wpAnyH_take (i := 4) (v := ?_) rfl (by kernel_rfl) (by kernel_rfl) (by kernel_rfl) (fun _ _ _ h => h) (Or.inl ⟨by rfl, ?_⟩) (sK _ LE0.out LA0.out) ?_
    rotate_left
    · (intro wS hSw; (try dsimp only at hSw); go_simp; try with_reducible rfl)
    simp only [Act.put, List.getElem_toArray, List.getElem_cons_zero, List.getElem_cons_succ, List.setIfInBounds_toArray, List.set_cons_zero, List.set_cons_succ]
    refine wpAnyH_take (i := 5) (v := ?_) rfl (by kernel_rfl) (by kernel_rfl) (by kernel_rfl) (fun _ _ _ h => h) (Or.inl ⟨by rfl, ?_⟩) (sK _ LE0.out LA0.out) ?_
    rotate_left
    · (intro wS hSw; (try dsimp only at hSw); go_simp; try with_reducible rfl)
    simp only [Act.put, List.getElem_toArray, List.getElem_cons_zero, List.getElem_cons_succ, List.setIfInBounds_toArray, List.set_cons_zero, List.set_cons_succ]
    refine wpAnyH_take (i := 6) (v := ?_) rfl (by kernel_rfl) (by kernel_rfl) (by kernel_rfl) (fun _ _ _ h => h) (Or.inl ⟨by rfl, ?_⟩) (sK _ LE0.out LA0.out) ?_
    rotate_left
    · (intro wS hSw; (try dsimp only at hSw); go_simp; try with_reducible rfl)
    simp only [Act.put, List.getElem_toArray, List.getElem_cons_zero, List.getElem_cons_succ, List.setIfInBounds_toArray, List.set_cons_zero, List.set_cons_succ]
    refine wpAnyH_take (i := 7) (v := ?_) rfl (by kernel_rfl) (by kernel_rfl) (by kernel_rfl) (fun _ _ _ h => h) (Or.inl ⟨by rfl, ?_⟩) (sK _ LE0.out LA0.out) ?_
    rotate_left
    · (intro wS hSw; (try dsimp only at hSw); go_simp; try with_reducible rfl)
    simp only [Act.put, List.getElem_toArray, List.getElem_cons_zero, List.getElem_cons_succ, List.setIfInBounds_toArray, List.set_cons_zero, List.set_cons_succ]
    refine wpAnyH_take (i := 8) (v := ?_) rfl (by kernel_rfl) (by kernel_rfl) (by kernel_rfl) (fun _ _ _ h => h) (Or.inl ⟨by rfl, ?_⟩) (sK _ LE0.out LA0.out) ?_
    rotate_left
    · (intro wS hSw; (try dsimp only at hSw); go_simp; try with_reducible rfl)
    simp only [Act.put, List.getElem_toArray, List.getElem_cons_zero, List.getElem_cons_succ, List.setIfInBounds_toArray, List.set_cons_zero, List.set_cons_succ]
    refine wpAnyH_take (i := 9) (v := ?_) rfl (by kernel_rfl) (by kernel_rfl) (by kernel_rfl) (fun _ _ _ h => h) (Or.inl ⟨by rfl, ?_⟩) (sK _ LE0.out LA0.out) ?_
    rotate_left
    · (intro wS hSw; (try dsimp only at hSw); go_simp; try with_reducible rfl)
    simp only [Act.put, List.getElem_toArray, List.getElem_cons_zero, List.getElem_cons_succ, List.setIfInBounds_toArray, List.set_cons_zero, List.set_cons_succ]
    refine wpAnyH_take (i := 10) (v := ?_) rfl (by kernel_rfl) (by kernel_rfl) (by kernel_rfl) (fun _ _ _ h => h) (Or.inl ⟨by rfl, ?_⟩) (sK _ LE0.out LA0.out) ?_
    rotate_left
    · (intro wS hSw; (try dsimp only at hSw); go_simp; try with_reducible rfl)
    simp only [Act.put, List.getElem_toArray, List.getElem_cons_zero, List.getElem_cons_succ, List.setIfInBounds_toArray, List.set_cons_zero, List.set_cons_succ]
    refine wpAnyH_take (i := 11) (v := ?_) rfl (by kernel_rfl) (by kernel_rfl) (by kernel_rfl) (fun _ _ _ h => h) (Or.inl ⟨by rfl, ?_⟩) (sK _ LE0.out LA0.out) ?_
    rotate_left
    · (intro wS hSw; (try dsimp only at hSw); go_simp; try with_reducible rfl)
    simp only [Act.put, List.getElem_toArray, List.getElem_cons_zero, List.getElem_cons_succ, List.setIfInBounds_toArray, List.set_cons_zero, List.set_cons_succ]
    refine wpAnyH_done (by kernel_rfl) ?_ _
    clear LE0 LA0
    go_wp2_with fail
    refine bodyPost_ret (v := .tuple #[(.slice (some ⟨b, o + 3, none⟩) (n - 1) (c - 1)), .bool true]) (by simp [results, Try.results13, go_sem]) rfl ⟨_, v1, X1, M.drop 1, rfl, ⟨HH.out.fr (S := fun _ => False) (Fr.refl _ _).drew (fun q => q) (fun _ _ q => q), (HP.out.trans HCT.out).symm, ord_drop HOM.out 1, isE_tail HI3.out (by omega) hc1, fun a n c e => ?_⟩, FX1.out.drew, fun i hi => Or.inl (HS.out i hi), by rw [List.length_drop]; omega⟩
    have hb : a.block = b := by simp at e; rw [← e.1]
    rw [hb]
    exact ⟨fun q => (HSP.out ⟨b, o, none⟩ _ _ rfl).1 q, fun q => (HSP.out ⟨b, o, none⟩ _ _ rfl).2 (HS.out _ q)⟩
  · obtain rfl : c = 1 := by omega
    obtain rfl : n = 1 := by omega
    have kE0 : V1.cell? ⟨g1, 0, none⟩ = some (.int .i64 p) := HE.out.cell 0
    have kE1 : V1.cell? ⟨g1, 1, none⟩ = some (.int .i64 q) := HE.out.cell 1
    have kE2 : V1.cell? ⟨g1, 2, none⟩ = some (.int .i64 s) := HE.out.cell 2
    have kA0 : V1.cell? ⟨b, o, none⟩ = some (.int .i64 p) := HA.out 0 _ rfl
    have kA1 : V1.cell? ⟨b, o + 1, none⟩ = some (.int .i64 q) := HA.out 1 _ rfl
    have kA2 : V1.cell? ⟨b, o + 2, none⟩ = some (.int .i64 s) := HA.out 2 _ rfl
    go_wp2_with fail
    have sK : ∀ X, Blk X (g1) 24 #[.int .i64 p, .int .i64 q, .int .i64 s] → At X b (o) #[.int .i64 p, .int .i64 q, .int .i64 s] → (fun X => X.cell? ⟨g1, 0, none⟩ = some (.int .i64 p) ∧ X.cell? ⟨g1, 1, none⟩ = some (.int .i64 q) ∧ X.cell? ⟨g1, 2, none⟩ = some (.int .i64 s) ∧ X.cell? ⟨b, o, none⟩ = some (.int .i64 p) ∧ X.cell? ⟨b, o + 1, none⟩ = some (.int .i64 q) ∧ X.cell? ⟨b, o + 2, none⟩ = some (.int .i64 s)) X := fun X hE hA => ⟨hE.cell 0, hE.cell 1, hE.cell 2, hA 0 _ rfl, hA 1 _ rfl, hA 2 _ rfl⟩
    have LE0 := Lib.hid (HE.out.drew)
    have LA0 := Lib.hid (HA.out.drew)
    have E0 := Lib.hid (EE.out.drew)
    clear kE0 kE1 kE2 kA0 kA1 kA2
    refine wp_region_held_drew (S := (fun X => X.cell? ⟨g1, 0, none⟩ = some (.int .i64 p) ∧ X.cell? ⟨g1, 1, none⟩ = some (.int .i64 q) ∧ X.cell? ⟨g1, 2, none⟩ = some (.int .i64 s) ∧ X.cell? ⟨b, o, none⟩ = some (.int .i64 p) ∧ X.cell? ⟨b, o + 1, none⟩ = some (.int .i64 q) ∧ X.cell? ⟨b, o + 2, none⟩ = some (.int .i64 s))) (by kernel_rfl) (sK _ LE0.out LA0.out) (fun hHeld => ?_)
    clear hHeld
    refine wpAnyH_take (i := 0) (v := ?_) rfl (by kernel_rfl) (by kernel_rfl) (by kernel_rfl) (fun _ _ _ h => h) (Or.inl ⟨by rfl, ?_⟩) (sK _ LE0.out LA0.out) ?_
    rotate_left
    · (intro wS hSw; (try dsimp only at hSw); go_simp; try with_reducible rfl)
    simp only [Act.put, List.getElem_toArray, List.getElem_cons_zero, List.getElem_cons_succ, List.setIfInBounds_toArray, List.set_cons_zero, List.set_cons_succ]
    refine wpAnyH_take (i := 1) (v := ?_) rfl (by kernel_rfl) (by kernel_rfl) (by kernel_rfl) (fun _ _ _ h => h) (Or.inl ⟨by rfl, ?_⟩) (sK _ LE0.out LA0.out) ?_
    rotate_left
    · (intro wS hSw; (try dsimp only at hSw); go_simp; try with_reducible rfl)
    simp only [Act.put, List.getElem_toArray, List.getElem_cons_zero, List.getElem_cons_succ, List.setIfInBounds_toArray, List.set_cons_zero, List.set_cons_succ]
    refine wpAnyH_take (i := 2) (v := ?_) rfl (by kernel_rfl) (by kernel_rfl) (by kernel_rfl) (fun _ _ _ h => h) (Or.inl ⟨by rfl, ?_⟩) (sK _ LE0.out LA0.out) ?_
    rotate_left
    · (intro wS hSw; (try dsimp only at hSw); go_simp; try with_reducible rfl)
    simp only [Act.put, List.getElem_toArray, List.getElem_cons_zero, List.getElem_cons_succ, List.setIfInBounds_toArray, List.set_cons_zero, List.set_cons_succ]
    refine wpAnyH_take (i := 3) (v := ?_) rfl (by kernel_rfl) (by kernel_rfl) (by kernel_rfl) (fun _ _ _ h => h) (Or.inl ⟨by rfl, ?_⟩) (sK _ LE0.out LA0.out) ?_
    rotate_left
    · (intro wS hSw; (try dsimp only at hSw); go_simp; try with_reducible rfl)
    simp only [Act.put, List.getElem_toArray, List.getElem_cons_zero, List.getElem_cons_succ, List.setIfInBounds_toArray, List.set_cons_zero, List.set_cons_succ]
    refine wpAnyH_take (i := 4) (v := ?_) rfl (by kernel_rfl) (by kernel_rfl) (by kernel_rfl) (fun _ _ _ h => h) (Or.inl ⟨by rfl, ?_⟩) (sK _ LE0.out LA0.out) ?_
    rotate_left
    · (intro wS hSw; (try dsimp only at hSw); go_simp; try with_reducible rfl)
    simp only [Act.put, List.getElem_toArray, List.getElem_cons_zero, List.getElem_cons_succ, List.setIfInBounds_toArray, List.set_cons_zero, List.set_cons_succ]
    refine wpAnyH_take (i := 5) (v := ?_) rfl (by kernel_rfl) (by kernel_rfl) (by kernel_rfl) (fun _ _ _ h => h) (Or.inl ⟨by rfl, ?_⟩) (sK _ LE0.out LA0.out) ?_
    rotate_left
    · (intro wS hSw; (try dsimp only at hSw); go_simp; try with_reducible rfl)
    simp only [Act.put, List.getElem_toArray, List.getElem_cons_zero, List.getElem_cons_succ, List.setIfInBounds_toArray, List.set_cons_zero, List.set_cons_succ]
    refine wpAnyH_take (i := 6) (v := ?_) rfl (by kernel_rfl) (by kernel_rfl) (by kernel_rfl) (fun _ _ _ h => h) (Or.inl ⟨by rfl, ?_⟩) (sK _ LE0.out LA0.out) ?_
    rotate_left
    · (intro wS hSw; (try dsimp only at hSw); go_simp; try with_reducible rfl)
    simp only [Act.put, List.getElem_toArray, List.getElem_cons_zero, List.getElem_cons_succ, List.setIfInBounds_toArray, List.set_cons_zero, List.set_cons_succ]
    refine wpAnyH_take (i := 7) (v := ?_) rfl (by kernel_rfl) (by kernel_rfl) (by kernel_rfl) (fun _ _ _ h => h) (Or.inl ⟨by rfl, ?_⟩) (sK _ LE0.out LA0.out) ?_
    rotate_left
    · (intro wS hSw; (try dsimp only at hSw); go_simp; try with_reducible rfl)
    simp only [Act.put, List.getElem_toArray, List.getElem_cons_zero, List.getElem_cons_succ, List.setIfInBounds_toArray, List.set_cons_zero, List.set_cons_succ]
    refine wpAnyH_take (i := 8) (v := ?_) rfl (by kernel_rfl) (by kernel_rfl) (by kernel_rfl) (fun _ _ _ h => h) (Or.inl ⟨by rfl, ?_⟩) (sK _ LE0.out LA0.out) ?_
    rotate_left
    · (intro wS hSw; (try dsimp only at hSw); go_simp; try with_reducible rfl)
    simp only [Act.put, List.getElem_toArray, List.getElem_cons_zero, List.getElem_cons_succ, List.setIfInBounds_toArray, List.set_cons_zero, List.set_cons_succ]
    refine wpAnyH_take (i := 9) (v := ?_) rfl (by kernel_rfl) (by kernel_rfl) (by kernel_rfl) (fun _ _ _ h => h) (Or.inl ⟨by rfl, ?_⟩) (sK _ LE0.out LA0.out) ?_
    rotate_left
    · (intro wS hSw; (try dsimp only at hSw); go_simp; try with_reducible rfl)
    simp only [Act.put, List.getElem_toArray, List.getElem_cons_zero, List.getElem_cons_succ, List.setIfInBounds_toArray, List.set_cons_zero, List.set_cons_succ]
    refine wpAnyH_take (i := 10) (v := ?_) rfl (by kernel_rfl) (by kernel_rfl) (by kernel_rfl) (fun _ _ _ h => h) (Or.inl ⟨by rfl, ?_⟩) (sK _ LE0.out LA0.out) ?_
    rotate_left
    · (intro wS hSw; (try dsimp only at hSw); go_simp; try with_reducible rfl)
    simp only [Act.put, List.getElem_toArray, List.getElem_cons_zero, List.getElem_cons_succ, List.setIfInBounds_toArray, List.set_cons_zero, List.set_cons_succ]
    refine wpAnyH_take (i := 11) (v := ?_) rfl (by kernel_rfl) (by kernel_rfl) (by kernel_rfl) (fun _ _ _ h => h) (Or.inl ⟨by rfl, ?_⟩) (sK _ LE0.out LA0.out) ?_
    rotate_left
    · (intro wS hSw; (try dsimp only at hSw); go_simp; try with_reducible rfl)
    simp only [Act.put, List.getElem_toArray, List.getElem_cons_zero, List.getElem_cons_succ, List.setIfInBounds_toArray, List.set_cons_zero, List.set_cons_succ]
    refine wpAnyH_done (by kernel_rfl) ?_ _
    clear LE0 LA0
    go_wp2_with fail
    refine bodyPost_ret (v := .tuple #[(.slice (some ⟨b, o, none⟩) 0 0), .bool true]) (by simp [results, Try.results13, go_sem]) rfl ⟨_, v1, X1, M.drop 1, rfl, ⟨HH.out.fr (S := fun _ => False) (Fr.refl _ _).drew (fun q => q) (fun _ _ q => q), (HP.out.trans HCT.out).symm, ord_drop HOM.out 1, isE_tail1 HI3.out HMN.out, fun a n c e => ?_⟩, FX1.out.drew, fun i hi => Or.inl (HS.out i hi), by rw [List.length_drop]; omega⟩
    have hb : a.block = b := by simp at e; rw [← e.1]
    rw [hb]
    exact ⟨fun q => (HSP.out ⟨b, o, none⟩ _ _ rfl).1 q, fun q => (HSP.out ⟨b, o, none⟩ _ _ rfl).2 (HS.out _ q)⟩
end Go.Proofs.Ytobeppajomhfjaa
