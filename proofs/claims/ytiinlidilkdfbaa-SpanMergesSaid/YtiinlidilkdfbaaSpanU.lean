/- span.Merge at any spans. -/
import Derived.Test.YtiinlidilkdfbaaSpanS
import Derived.Test.YtiinlidilkdfbaaSpanF
import Derived.WalkKit
import Derived.IntWalk
import Derived.Lib.Hide
import Derived.WalkSpells
import Derived.WalkLawsBesides
import Derived.Laws.CopyOwn
import Derived.Laws.MakeOwn
import Derived.Laws.OwnMore
import Derived.Laws.AppendOwnNone
import Derived.OwnWalk
import Derived.BigRegion
import Derived.Deep.LoopGhost
import Derived.Deep.RegionHeld3
import Derived.Deep.QuietTactic
import Derived.BigQuiet
namespace Go.Proofs.Ytiinlidilkdfbaa
open Go.RowKit
set_option linter.unusedVariables false
set_option linter.unusedSimpArgs false
/-- what a row in order is, for a merge -/
structure OrdS (M : List (Int × Int)) : Prop where
  sort : ∀ i j, i < j → j < M.length → zS M i 0 ≤ zS M j 0
  some : ∀ i, i < M.length → zS M i 0 < zS M i 1
  low : ∀ i, i < M.length → LO < zS M i 0
/-- the row of the first k spans -/
structure MgI (M R : List (Int × Int)) (k : Nat) : Prop where
  right : RtL LO R
  has : ∀ n, hasL R n = hasL (M.take k) n
  len : R.length ≤ k
  last : ∀ R' p q, R = R' ++ [(p, q)] → ∀ j, k ≤ j → j < M.length → p ≤ zS M j 0
theorem at_take {M : List (Int × Int)} {k : Nat} (hk : k < M.length) (n : Int) : hasL (M.take (k + 1)) n = (hasL (M.take k) n || (decide (zS M k 0 ≤ n) && decide (n < zS M k 1))) := by
  have e : M[k] = (zS M k 0, zS M k 1) := by
    unfold zS
    rw [List.getD_eq_getElem?_getD, List.getElem?_eq_getElem hk]; rfl
  rw [List.take_succ_eq_append_getElem hk, has_app, e, has_one]
theorem mg_zero (M : List (Int × Int)) : MgI M [] 0 := ⟨trivial, fun n => by simp [hasL], Nat.le_refl _, fun R' p q h => by simp at h⟩
theorem lastOf {R R' : List (Int × Int)} {p q a b : Int} (h : R ++ [(a, b)] = R' ++ [(p, q)]) : p = a := by
  have := congrArg List.getLast? h
  simp at this
  exact this.1.symm
theorem mg_put {M R : List (Int × Int)} {k : Nat} (hM : OrdS M) (h : MgI M R k) (hk : k < M.length) {a b : Int} (ha : zS M k 0 = a) (hb : zS M k 1 = b) (he : endL LO R < a) : MgI M (R ++ [(a, b)]) (k + 1) := by
  subst ha hb
  refine ⟨(rt_app R LO _ _).2 ⟨h.right, he, hM.some k hk⟩, fun n => ?_, by simp; exact h.len, fun R' p q e j hj hl => ?_⟩
  · rw [has_app, has_one, at_take hk, h.has]
  · rw [lastOf e]; exact hM.sort k j (by omega) hl
theorem mg_join {M R' : List (Int × Int)} {p q : Int} {k : Nat} (hM : OrdS M) (h : MgI M (R' ++ [(p, q)]) k) (hk : k < M.length) {a b : Int} (ha : zS M k 0 = a) (hb : zS M k 1 = b) (hq : ¬ q < a) {y : Int} (hy : y = max q b) : MgI M (R' ++ [(p, y)]) (k + 1) := by
  subst ha hb hy
  have hpa := h.last R' p q rfl k (Nat.le_refl _) hk
  obtain ⟨r1, r2, r3⟩ := (rt_app R' LO p q).1 h.right
  refine ⟨(rt_app R' LO _ _).2 ⟨r1, r2, by omega⟩, fun n => ?_, by have := h.len; simp at this ⊢; omega, fun R2 p2 q2 e j hj hl => ?_⟩
  · rw [at_take hk, ← h.has, has_app, has_app, has_one, has_one, Bool.or_assoc]
    congr 1
    rw [Bool.eq_iff_iff]
    simp only [Bool.or_eq_true, Bool.and_eq_true, decide_eq_true_eq]
    omega
  · rw [lastOf e]; exact h.last R' p q rfl j (by omega) hl
def MerR (L : List (Int × Int)) (w : World) (e : Ending) (w' : World) : Prop := ∃ v' R, e = .returned v' ∧ IsS w' v' R ∧ RtL LO R ∧ (∀ n, hasL R n = hasL L n) ∧ R.length ≤ L.length ∧ Below w.heap.size w w'
theorem has_perm {M L : List (Int × Int)} (h : M.Perm (L.filter nemS)) (n : Int) : hasL M n = hasL L n := by
  rw [Bool.eq_iff_iff, has_iff, has_iff]
  constructor
  · rintro ⟨p, hp, h1⟩
    exact ⟨p, (List.mem_filter.1 (h.mem_iff.1 hp)).1, h1⟩
  · rintro ⟨p, hp, h1, h2⟩
    exact ⟨p, h.mem_iff.2 (List.mem_filter.2 ⟨hp, by simp [nemS, emS]; omega⟩), h1, h2⟩
theorem ordS_of {M L : List (Int × Int)} (h : M.Perm (L.filter nemS)) (hs : ∀ i j, i < j → j < M.length → zS M i 0 ≤ zS M j 0) (hb : ∀ p, p ∈ L → (-9223372036854775808 ≤ p.1 ∧ p.1 ≤ 9223372036854775807) ∧ (-9223372036854775808 ≤ p.2 ∧ p.2 ≤ 9223372036854775807)) : OrdS M := by
  have hm : ∀ i, i < M.length → (zS M i 0, zS M i 1) ∈ L.filter nemS := fun i hi => by
    have e : M[i] = (zS M i 0, zS M i 1) := by
      unfold zS
      rw [List.getD_eq_getElem?_getD, List.getElem?_eq_getElem hi]; rfl
    rw [← e]
    exact h.mem_iff.1 (List.getElem_mem hi)
  refine ⟨hs, fun i hi => ?_, fun i hi => ?_⟩
  · have := (List.mem_filter.1 (hm i hi)).2
    simp [nemS, emS] at this
    exact this
  · have := (hb _ (List.mem_filter.1 (hm i hi)).1).1.1
    simp only at this
    unfold LO; omega
set_option maxRecDepth 100000 in
set_option maxHeartbeats 8000000 in
theorem merge_some (b0 o0 c0 : Nat) (L : List (Int × Int)) (w : World) (hr : RdZ w 2 (some ⟨b0, o0, none⟩) L.length (zS L)) (hn : 0 < L.length) (hl : L.length ≤ 1000) (hc : L.length ≤ c0) (hbd : ∀ p, p ∈ L → (-9223372036854775808 ≤ p.1 ∧ p.1 ≤ 9223372036854775807) ∧ (-9223372036854775808 ≤ p.2 ∧ p.2 ≤ 9223372036854775807)) :
    Calls Try.prog 6 #[.slice (some ⟨b0, o0, none⟩) L.length c0] w (MerR L w) := by
  have KC := Lib.hid (clone_any b0 o0 c0 L w hr hn hl hc)
  obtain ⟨Z, hZ⟩ : ∃ Z : Ending → World → Prop, MerR L w = Z := ⟨_, rfl⟩
  have HZ := Lib.hid hZ
  have HBD := Lib.hid hbd
  rw [hZ]
  clear hr hZ hbd
  go_enter Try.func6, Try.ntmps6
  go_wp2_with fail
  refine KC.out.mono ?_
  rintro e w1 ⟨h, c, rfl, hc, hcm, ho, hge, hb1⟩
  have KD := Lib.hid (del_any h c L w1 ho hl hc hcm)
  have HB1 := Lib.hid hb1
  clear ho hb1
  go_wp2_with fail
  refine KD.out.mono ?_
  rintro e w2 ⟨rfl, hp2, hb2⟩
  have hfl : (L.filter nemS).length ≤ L.length := List.length_filter_le _ _
  have KS := Lib.hid (sortS_any h c (L.filter nemS) w2 hp2 (by omega))
  have HB2 := Lib.hid (HB1.out.trans (hb2.mono hge))
  clear hp2 hb2
  go_wp2_with fail
  refine KS.out.mono ?_
  rintro e w3 ⟨rfl, M, hpm, hso, hp3, hb3⟩
  have HM : Hid (OrdS M) := Lib.hid (ordS_of hpm hso HBD.out)
  have HPM := Lib.hid hpm
  have HP3 := Lib.hid hp3
  have HB3 := Lib.hid (HB2.out.trans (hb3.mono hge))
  rw [← hpm.length_eq]
  rw [← hpm.length_eq] at hfl
  obtain ⟨nM, hnM⟩ : ∃ n, M.length = n := ⟨_, rfl⟩
  have HNM := Lib.hid hnM
  rw [hnM] at hfl ⊢
  clear hp3 hb3 hpm hso hnM
  go_wp2_with fail
  go_loopw [4, 15] (fun rv i wr => ∃ (k : Nat) (R : List (Int × Int)), i = .int .i64 k ∧ k ≤ nM ∧ Hid (Below w3.heap.size w3 wr) ∧ Hid (MgI M R k) ∧ Hid (wr.ownsRow w3.heap.size 26 2 rv R.length (rowM 2 (zS R) R.length)) ∧ (R = [] → rv = .slice none 0 0)) (fun _ i _ => nM - (intOf i).toNat)
  case atStart => exact ⟨0, [], rfl, by omega, Lib.hid (Below.refl _ _), Lib.hid (mg_zero M), Lib.hid ⟨by simp [rowM_len], Or.inl ⟨rfl, rfl⟩⟩, fun _ => rfl⟩
  case round =>
    obtain ⟨k, R, rfl, hk, HB, HG, HO, hrv⟩ := hrel
    by_cases hkn : k < nM
    · have k0 := (HP3.out.on HB.out |>.2 k 0 (by rw [HNM.out]; exact hkn) (by omega)).1
      have k0 : wr.cell? ⟨h, k * 2, none⟩ = _ := k0
      have k1 := (HP3.out.on HB.out |>.2 k 1 (by rw [HNM.out]; exact hkn) (by omega)).1
      obtain ⟨a, ha⟩ : ∃ p, zS M k 0 = p := ⟨_, rfl⟩
      obtain ⟨b, hb⟩ : ∃ q, zS M k 1 = q := ⟨_, rfl⟩
      have HA := Lib.hid ha; have HBb := Lib.hid hb
      rw [ha] at k0
      rw [hb] at k1
      have hsz := HB.out.size
      have hkM : Hid (k < M.length) := Lib.hid (by rw [HNM.out]; exact hkn)
      clear ha hb
      have hba : Below wr.heap.size wr ((wr.alloc (.cells #[.int .i64 a, .int .i64 b] 26)).drew) := ((Below.refl wr.heap.size wr).alloc (Nat.le_refl _) _).drew
      rcases List.eq_nil_or_concat R with hR | ⟨R', pq, hR⟩
      · subst hR
        have HGN : Hid (MgI M [(a, b)] (k + 1)) := Lib.hid (mg_put HM.out HG.out hkM.out HA.out HBb.out (by rw [← HA.out]; exact HM.out.low k hkM.out))
        simp only [List.length_nil, rowM_zero] at HO
        obtain rfl := hrv rfl
        clear hrv
        have hm1 : IntKind.i64.wrap (-1) = -1 := by decide
        go_wp2_with fail
        refine wp_region_held_drew (S := (fun _ : World => True)) (by kernel_rfl) trivial (fun hHeld => ?_)
        clear hHeld
        refine wpAnyH_take (i := 0) (v := ?_) rfl (by kernel_rfl) (by kernel_rfl) (by kernel_rfl) (fun _ _ _ h => h) (Or.inl ⟨by rfl, ?_⟩) trivial ?_
        rotate_left
        · (intro wS hSw; (try dsimp only at hSw); go_simp; try with_reducible rfl)
        simp only [Act.put, List.getElem_toArray, List.getElem_cons_zero, List.getElem_cons_succ, List.setIfInBounds_toArray, List.set_cons_zero, List.set_cons_succ]
        refine wpAnyH_take (i := 1) (v := ?_) rfl (by kernel_rfl) (by kernel_rfl) (by kernel_rfl) (fun _ _ _ h => h) (Or.inl ⟨by rfl, ?_⟩) trivial ?_
        rotate_left
        · (intro wS hSw; (try dsimp only at hSw); go_simp; try with_reducible rfl)
        simp only [Act.put, List.getElem_toArray, List.getElem_cons_zero, List.getElem_cons_succ, List.setIfInBounds_toArray, List.set_cons_zero, List.set_cons_succ]
        refine wpAnyH_take (i := 2) (v := ?_) rfl (by kernel_rfl) (by kernel_rfl) (by kernel_rfl) (fun _ _ _ h => h) (Or.inl ⟨by rfl, ?_⟩) trivial ?_
        rotate_left
        · (intro wS hSw; (try dsimp only at hSw); go_simp; try with_reducible rfl)
        simp only [Act.put, List.getElem_toArray, List.getElem_cons_zero, List.getElem_cons_succ, List.setIfInBounds_toArray, List.set_cons_zero, List.set_cons_succ]
        refine wpAnyH_take (i := 3) (v := undef) rfl (by kernel_rfl) (by kernel_rfl) (by kernel_rfl) (fun _ _ _ h => h) (Or.inr ⟨by kernel_rfl, rfl⟩) trivial ?_
        simp only [Act.put, List.getElem_toArray, List.getElem_cons_zero, List.getElem_cons_succ, List.setIfInBounds_toArray, List.set_cons_zero, List.set_cons_succ]
        refine wpAnyH_take (i := 4) (v := undef) rfl (by kernel_rfl) (by kernel_rfl) (by kernel_rfl) (fun _ _ _ h => h) (Or.inr ⟨by kernel_rfl, rfl⟩) trivial ?_
        simp only [Act.put, List.getElem_toArray, List.getElem_cons_zero, List.getElem_cons_succ, List.setIfInBounds_toArray, List.set_cons_zero, List.set_cons_succ]
        refine wpAnyH_take (i := 5) (v := undef) rfl (by kernel_rfl) (by kernel_rfl) (by kernel_rfl) (fun _ _ _ h => h) (Or.inr ⟨by kernel_rfl, rfl⟩) trivial ?_
        simp only [Act.put, List.getElem_toArray, List.getElem_cons_zero, List.getElem_cons_succ, List.setIfInBounds_toArray, List.set_cons_zero, List.set_cons_succ]
        refine wpAnyH_take (i := 6) (v := undef) rfl (by kernel_rfl) (by kernel_rfl) (by kernel_rfl) (fun _ _ _ h => h) (Or.inr ⟨by kernel_rfl, rfl⟩) trivial ?_
        simp only [Act.put, List.getElem_toArray, List.getElem_cons_zero, List.getElem_cons_succ, List.setIfInBounds_toArray, List.set_cons_zero, List.set_cons_succ]
        refine wpAnyH_take (i := 7) (v := undef) rfl (by kernel_rfl) (by kernel_rfl) (by kernel_rfl) (fun _ _ _ h => h) (Or.inr ⟨by kernel_rfl, rfl⟩) trivial ?_
        simp only [Act.put, List.getElem_toArray, List.getElem_cons_zero, List.getElem_cons_succ, List.setIfInBounds_toArray, List.set_cons_zero, List.set_cons_succ]
        refine wpAnyH_take (i := 8) (v := undef) rfl (by kernel_rfl) (by kernel_rfl) (by kernel_rfl) (fun _ _ _ h => h) (Or.inr ⟨by kernel_rfl, rfl⟩) trivial ?_
        simp only [Act.put, List.getElem_toArray, List.getElem_cons_zero, List.getElem_cons_succ, List.setIfInBounds_toArray, List.set_cons_zero, List.set_cons_succ]
        refine wpAnyH_take (i := 9) (v := undef) rfl (by kernel_rfl) (by kernel_rfl) (by kernel_rfl) (fun _ _ _ h => h) (Or.inr ⟨by kernel_rfl, rfl⟩) trivial ?_
        simp only [Act.put, List.getElem_toArray, List.getElem_cons_zero, List.getElem_cons_succ, List.setIfInBounds_toArray, List.set_cons_zero, List.set_cons_succ]
        refine wpAnyH_take (i := 10) (v := undef) rfl (by kernel_rfl) (by kernel_rfl) (by kernel_rfl) (fun _ _ _ h => h) (Or.inr ⟨by kernel_rfl, rfl⟩) trivial ?_
        simp only [Act.put, List.getElem_toArray, List.getElem_cons_zero, List.getElem_cons_succ, List.setIfInBounds_toArray, List.set_cons_zero, List.set_cons_succ]
        refine wpAnyH_take (i := 11) (v := ?_) rfl (by kernel_rfl) (by kernel_rfl) (by kernel_rfl) (fun _ _ _ h => h) (Or.inl ⟨by rfl, ?_⟩) trivial ?_
        rotate_left
        · (intro wS hSw; (try dsimp only at hSw); go_simp; try with_reducible rfl)
        simp only [Act.put, List.getElem_toArray, List.getElem_cons_zero, List.getElem_cons_succ, List.setIfInBounds_toArray, List.set_cons_zero, List.set_cons_succ]
        refine wpAnyH_done (by kernel_rfl) ?_ _
        obtain ⟨WW, hWW⟩ : ∃ X, (wr.alloc (.cells #[.int .i64 a, .int .i64 b] 26)).drew = X := ⟨_, rfl⟩
        have HW : Hid (Below w3.heap.size w3 WW) := Lib.hid (by rw [← hWW]; exact (HB.out.alloc hsz _).drew)
        have HX : Hid (Blk WW wr.heap.size 26 #[.int .i64 a, .int .i64 b]) := Lib.hid (by rw [← hWW]; exact Blk.new wr _ _)
        have HOW := Lib.hid (ownM_below HO.out hba)
        rw [hWW] at HOW
        try rw [hWW]
        have x0 := HX.out.cell 0; have x1 := HX.out.cell 1
        have hszW := HW.out.size
        clear hWW k0 k1 hba
        go_wp2_with (at_builtin; refine append_spans2 rfl _ _ rfl w3.heap.size (.slice none 0 0) 0 [] rfl (ownM_below HOW.out ((Below.refl WW.heap.size WW).alloc (Nat.le_refl _) _)) WW.heap.size 1 a b rfl (Blk.new WW _ _) (by omega) (by simp; omega) ?_; intro v1 w5 o1 q1 t1)
        have HBN : Hid (Below w3.heap.size w3 w5) := Lib.hid ((HW.out.alloc hszW _).trans q1)
        have HON : Hid (w5.ownsRow w3.heap.size 26 2 v1 ([(a, b)] : List (Int × Int)).length (rowM 2 (zS [(a, b)]) ([(a, b)] : List (Int × Int)).length)) := Lib.hid (by
          have e := rowS_push [] a b
          rw [List.length_nil, rowM_zero] at e
          have e2 : rowM 2 (zS [(a, b)]) ([(a, b)] : List (Int × Int)).length = [] ++ [.int .i64 a, .int .i64 b] := e.symm
          rw [e2]; exact o1)
        clear o1 q1 t1 x0 x1
        go_wp2_with fail
        go_roundw
        case rel => exact ⟨k + 1, [(a, b)], by go_num, by omega, HBN, HGN, HON, fun h => absurd h (by simp)⟩
        case measure => simp [intOf]; omega
      · rw [List.concat_eq_append] at hR
        obtain ⟨p, q⟩ := pq
        obtain ⟨nR, hnR⟩ : ∃ n, R.length = n := ⟨_, rfl⟩
        obtain ⟨m, hm⟩ : ∃ m, R'.length = m := ⟨_, rfl⟩
        have hmR : nR = m + 1 := by rw [← hnR, hR, List.length_append, hm]; rfl
        have HRR := Lib.hid hR
        have HNR := Lib.hid hnR; have HMm := Lib.hid hm
        rw [hnR] at HO
        have hlen : nR ≤ 1000 := by have := HG.out.len; rw [hnR] at this; omega
        clear hrv
        obtain ⟨gr, cr, rfl, hgr, hcr⟩ := ownM_head HO.out (by omega)
        have hwm : IntKind.i64.wrap ((nR : Int) - 1) = (m : Int) := by rw [hmR]; rw [IntWalk.i64_in _ (by omega)]; omega
        have hmi : (m : Int) < (nR : Int) := by omega
        have hmn : m < nR := by omega
        have hm0 : ¬ ((m : Int) < 0) := by omega
        have eq1 : zS R m 1 = q := by rw [hR, ← hm]; exact zS_last R' p q
        have cT := ownM_at HO.out (i := m) (j := 1) hmn (by omega)
        rw [eq1] at cT
        obtain ⟨gb, hgb⟩ : ∃ g, wr.heap.size = g := ⟨_, rfl⟩
        have HS8 : Hid (((wr.alloc (.cells #[.int .i64 a, .int .i64 b] 26)).drew).cell? ⟨gb, 0, none⟩ = some (.int .i64 a) ∧ ((wr.alloc (.cells #[.int .i64 a, .int .i64 b] 26)).drew).cell? ⟨gr, m * 2 + 1, none⟩ = some (.int .i64 q)) := Lib.hid ⟨by rw [← hgb]; exact (Blk.new wr #[.int .i64 a, .int .i64 b] 26).cell 0, cell_on hba cT⟩
        obtain ⟨WW, hWW⟩ : ∃ X, (wr.alloc (.cells #[.int .i64 a, .int .i64 b] 26)).drew = X := ⟨_, rfl⟩
        have HW : Hid (Below w3.heap.size w3 WW) := Lib.hid (by rw [← hWW]; exact (HB.out.alloc hsz _).drew)
        have HX : Hid (Blk WW wr.heap.size 26 #[.int .i64 a, .int .i64 b]) := Lib.hid (by rw [← hWW]; exact Blk.new wr _ _)
        have HOW := Lib.hid (ownM_below HO.out hba)
        rw [hWW] at HOW
        have HWW := Lib.hid hWW; have HGB := Lib.hid hgb
        have HEQ := Lib.hid eq1; have HmR := Lib.hid hmR
        clear hWW cT hba hgb hR hnR hm eq1 hmR
        by_cases hqa : q < a
        · have HGN : Hid (MgI M (R ++ [(a, b)]) (k + 1)) := Lib.hid (mg_put HM.out HG.out hkM.out HA.out HBb.out (by rw [HRR.out, end_app]; exact hqa))
          go_wp2_with fail
          rw [HGB.out]
          refine wp_region_held_drew (S := (fun X : World => X.cell? ⟨gb, 0, none⟩ = some (.int .i64 a) ∧ X.cell? ⟨gr, m * 2 + 1, none⟩ = some (.int .i64 q))) (by kernel_rfl) HS8.out (fun hHeld => ?_)
          clear hHeld
          refine wpAnyH_take (i := 0) (v := ?_) rfl (by kernel_rfl) (by kernel_rfl) (by kernel_rfl) (fun _ _ _ h => h) (Or.inl ⟨by rfl, ?_⟩) HS8.out ?_
          rotate_left
          · (intro wS hSw; (try dsimp only at hSw); go_simp; try with_reducible rfl)
          simp only [Act.put, List.getElem_toArray, List.getElem_cons_zero, List.getElem_cons_succ, List.setIfInBounds_toArray, List.set_cons_zero, List.set_cons_succ]
          refine wpAnyH_take (i := 1) (v := ?_) rfl (by kernel_rfl) (by kernel_rfl) (by kernel_rfl) (fun _ _ _ h => h) (Or.inl ⟨by rfl, ?_⟩) HS8.out ?_
          rotate_left
          · (intro wS hSw; (try dsimp only at hSw); go_simp; try with_reducible rfl)
          simp only [Act.put, List.getElem_toArray, List.getElem_cons_zero, List.getElem_cons_succ, List.setIfInBounds_toArray, List.set_cons_zero, List.set_cons_succ]
          refine wpAnyH_take (i := 2) (v := ?_) rfl (by kernel_rfl) (by kernel_rfl) (by kernel_rfl) (fun _ _ _ h => h) (Or.inl ⟨by rfl, ?_⟩) HS8.out ?_
          rotate_left
          · (intro wS hSw; (try dsimp only at hSw); go_simp; try with_reducible rfl)
          simp only [Act.put, List.getElem_toArray, List.getElem_cons_zero, List.getElem_cons_succ, List.setIfInBounds_toArray, List.set_cons_zero, List.set_cons_succ]
          refine wpAnyH_take (i := 3) (v := ?_) rfl (by kernel_rfl) (by kernel_rfl) (by kernel_rfl) (fun _ _ _ h => h) (Or.inl ⟨by rfl, ?_⟩) HS8.out ?_
          rotate_left
          · (intro wS hSw; (try dsimp only at hSw); go_simp; try with_reducible rfl)
          simp only [Act.put, List.getElem_toArray, List.getElem_cons_zero, List.getElem_cons_succ, List.setIfInBounds_toArray, List.set_cons_zero, List.set_cons_succ]
          refine wpAnyH_take (i := 4) (v := ?_) rfl (by kernel_rfl) (by kernel_rfl) (by kernel_rfl) (fun _ _ _ h => h) (Or.inl ⟨by rfl, ?_⟩) HS8.out ?_
          rotate_left
          · (intro wS hSw; (try dsimp only at hSw); go_simp; try with_reducible rfl)
          simp only [Act.put, List.getElem_toArray, List.getElem_cons_zero, List.getElem_cons_succ, List.setIfInBounds_toArray, List.set_cons_zero, List.set_cons_succ]
          refine wpAnyH_take (i := 5) (v := ?_) rfl (by kernel_rfl) (by kernel_rfl) (by kernel_rfl) (fun _ _ _ h => h) (Or.inl ⟨by rfl, ?_⟩) HS8.out ?_
          rotate_left
          · (intro wS hSw; (try dsimp only at hSw); go_simp; try with_reducible rfl)
          simp only [Act.put, List.getElem_toArray, List.getElem_cons_zero, List.getElem_cons_succ, List.setIfInBounds_toArray, List.set_cons_zero, List.set_cons_succ]
          refine wpAnyH_take (i := 6) (v := ?_) rfl (by kernel_rfl) (by kernel_rfl) (by kernel_rfl) (fun _ _ _ h => h) (Or.inl ⟨by rfl, ?_⟩) HS8.out ?_
          rotate_left
          · (intro wS hSw; (try dsimp only at hSw); go_simp; try with_reducible rfl)
          simp only [Act.put, List.getElem_toArray, List.getElem_cons_zero, List.getElem_cons_succ, List.setIfInBounds_toArray, List.set_cons_zero, List.set_cons_succ]
          refine wpAnyH_take (i := 7) (v := ?_) rfl (by kernel_rfl) (by kernel_rfl) (by kernel_rfl) (fun _ _ _ h => h) (Or.inl ⟨by rfl, ?_⟩) HS8.out ?_
          rotate_left
          · (intro wS hSw; (try dsimp only at hSw); go_simp; try with_reducible rfl)
          simp only [Act.put, List.getElem_toArray, List.getElem_cons_zero, List.getElem_cons_succ, List.setIfInBounds_toArray, List.set_cons_zero, List.set_cons_succ]
          refine wpAnyH_take (i := 8) (v := ?_) rfl (by kernel_rfl) (by kernel_rfl) (by kernel_rfl) (fun _ _ _ h => h) (Or.inl ⟨by rfl, ?_⟩) HS8.out ?_
          rotate_left
          · (intro wS hSw; (try dsimp only at hSw); go_simp; try with_reducible rfl)
          simp only [Act.put, List.getElem_toArray, List.getElem_cons_zero, List.getElem_cons_succ, List.setIfInBounds_toArray, List.set_cons_zero, List.set_cons_succ]
          refine wpAnyH_take (i := 9) (v := ?_) rfl (by kernel_rfl) (by kernel_rfl) (by kernel_rfl) (fun _ _ _ h => h) (Or.inl ⟨by rfl, ?_⟩) HS8.out ?_
          rotate_left
          · (intro wS hSw; (try dsimp only at hSw); go_simp; try with_reducible rfl)
          simp only [Act.put, List.getElem_toArray, List.getElem_cons_zero, List.getElem_cons_succ, List.setIfInBounds_toArray, List.set_cons_zero, List.set_cons_succ]
          refine wpAnyH_take (i := 10) (v := ?_) rfl (by kernel_rfl) (by kernel_rfl) (by kernel_rfl) (fun _ _ _ h => h) (Or.inl ⟨by rfl, ?_⟩) HS8.out ?_
          rotate_left
          · (intro wS hSw; (try dsimp only at hSw); go_simp; try with_reducible rfl)
          simp only [Act.put, List.getElem_toArray, List.getElem_cons_zero, List.getElem_cons_succ, List.setIfInBounds_toArray, List.set_cons_zero, List.set_cons_succ]
          refine wpAnyH_take (i := 11) (v := ?_) rfl (by kernel_rfl) (by kernel_rfl) (by kernel_rfl) (fun _ _ _ h => h) (Or.inl ⟨by rfl, ?_⟩) HS8.out ?_
          rotate_left
          · (intro wS hSw; (try dsimp only at hSw); go_simp; try with_reducible rfl)
          simp only [Act.put, List.getElem_toArray, List.getElem_cons_zero, List.getElem_cons_succ, List.setIfInBounds_toArray, List.set_cons_zero, List.set_cons_succ]
          refine wpAnyH_done (by kernel_rfl) ?_ _
          rw [HWW.out]
          have x0 : WW.cell? ⟨gb, 0, none⟩ = some (.int .i64 a) := by rw [← HGB.out]; exact HX.out.cell 0
          have x1 : WW.cell? ⟨gb, 1, none⟩ = some (.int .i64 b) := by rw [← HGB.out]; exact HX.out.cell 1
          have hszW := HW.out.size
          clear HS8 k0 k1
          go_wp2_with (at_builtin; refine append_spans2 rfl _ _ rfl w3.heap.size (.slice (some ⟨gr, 0, none⟩) nR cr) nR (rowM 2 (zS R) nR) rfl (ownM_below HOW.out ((Below.refl WW.heap.size WW).alloc (Nat.le_refl _) _)) WW.heap.size 1 a b rfl (Blk.new WW _ _) (by omega) (by simp; omega) ?_; intro v1 w5 o1 q1 t1)
          have HBN : Hid (Below w3.heap.size w3 w5) := Lib.hid ((HW.out.alloc hszW _).trans q1)
          have HON : Hid (w5.ownsRow w3.heap.size 26 2 v1 (R ++ [(a, b)]).length (rowM 2 (zS (R ++ [(a, b)])) (R ++ [(a, b)]).length)) := Lib.hid (by
            have e := rowS_push R a b
            rw [← e, List.length_append, HNR.out]; exact o1)
          clear o1 q1 t1 x0 x1
          go_wp2_with fail
          go_roundw
          case rel => exact ⟨k + 1, R ++ [(a, b)], by go_num, by omega, HBN, HGN, HON, fun h => absurd h (by simp)⟩
          case measure => simp [intOf]; omega
        · obtain ⟨y, hy⟩ : ∃ y, max q b = y := ⟨_, rfl⟩
          have HGN : Hid (MgI M (R' ++ [(p, y)]) (k + 1)) := Lib.hid (mg_join HM.out (by rw [← HRR.out]; exact HG.out) hkM.out HA.out HBb.out hqa hy.symm)
          go_wp2_with fail
          rw [HGB.out]
          refine wp_region_held_drew (S := (fun X : World => X.cell? ⟨gb, 0, none⟩ = some (.int .i64 a) ∧ X.cell? ⟨gr, m * 2 + 1, none⟩ = some (.int .i64 q))) (by kernel_rfl) HS8.out (fun hHeld => ?_)
          clear hHeld
          refine wpAnyH_take (i := 0) (v := ?_) rfl (by kernel_rfl) (by kernel_rfl) (by kernel_rfl) (fun _ _ _ h => h) (Or.inl ⟨by rfl, ?_⟩) HS8.out ?_
          rotate_left
          · (intro wS hSw; (try dsimp only at hSw); go_simp; try with_reducible rfl)
          simp only [Act.put, List.getElem_toArray, List.getElem_cons_zero, List.getElem_cons_succ, List.setIfInBounds_toArray, List.set_cons_zero, List.set_cons_succ]
          refine wpAnyH_take (i := 1) (v := ?_) rfl (by kernel_rfl) (by kernel_rfl) (by kernel_rfl) (fun _ _ _ h => h) (Or.inl ⟨by rfl, ?_⟩) HS8.out ?_
          rotate_left
          · (intro wS hSw; (try dsimp only at hSw); go_simp; try with_reducible rfl)
          simp only [Act.put, List.getElem_toArray, List.getElem_cons_zero, List.getElem_cons_succ, List.setIfInBounds_toArray, List.set_cons_zero, List.set_cons_succ]
          refine wpAnyH_take (i := 2) (v := ?_) rfl (by kernel_rfl) (by kernel_rfl) (by kernel_rfl) (fun _ _ _ h => h) (Or.inl ⟨by rfl, ?_⟩) HS8.out ?_
          rotate_left
          · (intro wS hSw; (try dsimp only at hSw); go_simp; try with_reducible rfl)
          simp only [Act.put, List.getElem_toArray, List.getElem_cons_zero, List.getElem_cons_succ, List.setIfInBounds_toArray, List.set_cons_zero, List.set_cons_succ]
          refine wpAnyH_take (i := 3) (v := ?_) rfl (by kernel_rfl) (by kernel_rfl) (by kernel_rfl) (fun _ _ _ h => h) (Or.inl ⟨by rfl, ?_⟩) HS8.out ?_
          rotate_left
          · (intro wS hSw; (try dsimp only at hSw); go_simp; try with_reducible rfl)
          simp only [Act.put, List.getElem_toArray, List.getElem_cons_zero, List.getElem_cons_succ, List.setIfInBounds_toArray, List.set_cons_zero, List.set_cons_succ]
          refine wpAnyH_take (i := 4) (v := ?_) rfl (by kernel_rfl) (by kernel_rfl) (by kernel_rfl) (fun _ _ _ h => h) (Or.inl ⟨by rfl, ?_⟩) HS8.out ?_
          rotate_left
          · (intro wS hSw; (try dsimp only at hSw); go_simp; try with_reducible rfl)
          simp only [Act.put, List.getElem_toArray, List.getElem_cons_zero, List.getElem_cons_succ, List.setIfInBounds_toArray, List.set_cons_zero, List.set_cons_succ]
          refine wpAnyH_take (i := 5) (v := ?_) rfl (by kernel_rfl) (by kernel_rfl) (by kernel_rfl) (fun _ _ _ h => h) (Or.inl ⟨by rfl, ?_⟩) HS8.out ?_
          rotate_left
          · (intro wS hSw; (try dsimp only at hSw); go_simp; try with_reducible rfl)
          simp only [Act.put, List.getElem_toArray, List.getElem_cons_zero, List.getElem_cons_succ, List.setIfInBounds_toArray, List.set_cons_zero, List.set_cons_succ]
          refine wpAnyH_take (i := 6) (v := ?_) rfl (by kernel_rfl) (by kernel_rfl) (by kernel_rfl) (fun _ _ _ h => h) (Or.inl ⟨by rfl, ?_⟩) HS8.out ?_
          rotate_left
          · (intro wS hSw; (try dsimp only at hSw); go_simp; try with_reducible rfl)
          simp only [Act.put, List.getElem_toArray, List.getElem_cons_zero, List.getElem_cons_succ, List.setIfInBounds_toArray, List.set_cons_zero, List.set_cons_succ]
          refine wpAnyH_take (i := 7) (v := ?_) rfl (by kernel_rfl) (by kernel_rfl) (by kernel_rfl) (fun _ _ _ h => h) (Or.inl ⟨by rfl, ?_⟩) HS8.out ?_
          rotate_left
          · (intro wS hSw; (try dsimp only at hSw); go_simp; try with_reducible rfl)
          simp only [Act.put, List.getElem_toArray, List.getElem_cons_zero, List.getElem_cons_succ, List.setIfInBounds_toArray, List.set_cons_zero, List.set_cons_succ]
          refine wpAnyH_take (i := 8) (v := ?_) rfl (by kernel_rfl) (by kernel_rfl) (by kernel_rfl) (fun _ _ _ h => h) (Or.inl ⟨by rfl, ?_⟩) HS8.out ?_
          rotate_left
          · (intro wS hSw; (try dsimp only at hSw); go_simp; try with_reducible rfl)
          simp only [Act.put, List.getElem_toArray, List.getElem_cons_zero, List.getElem_cons_succ, List.setIfInBounds_toArray, List.set_cons_zero, List.set_cons_succ]
          refine wpAnyH_take (i := 9) (v := ?_) rfl (by kernel_rfl) (by kernel_rfl) (by kernel_rfl) (fun _ _ _ h => h) (Or.inl ⟨by rfl, ?_⟩) HS8.out ?_
          rotate_left
          · (intro wS hSw; (try dsimp only at hSw); go_simp; try with_reducible rfl)
          simp only [Act.put, List.getElem_toArray, List.getElem_cons_zero, List.getElem_cons_succ, List.setIfInBounds_toArray, List.set_cons_zero, List.set_cons_succ]
          refine wpAnyH_take (i := 10) (v := ?_) rfl (by kernel_rfl) (by kernel_rfl) (by kernel_rfl) (fun _ _ _ h => h) (Or.inl ⟨by rfl, ?_⟩) HS8.out ?_
          rotate_left
          · (intro wS hSw; (try dsimp only at hSw); go_simp; try with_reducible rfl)
          simp only [Act.put, List.getElem_toArray, List.getElem_cons_zero, List.getElem_cons_succ, List.setIfInBounds_toArray, List.set_cons_zero, List.set_cons_succ]
          refine wpAnyH_take (i := 11) (v := ?_) rfl (by kernel_rfl) (by kernel_rfl) (by kernel_rfl) (fun _ _ _ h => h) (Or.inl ⟨by rfl, ?_⟩) HS8.out ?_
          rotate_left
          · (intro wS hSw; (try dsimp only at hSw); go_simp; try with_reducible rfl)
          simp only [Act.put, List.getElem_toArray, List.getElem_cons_zero, List.getElem_cons_succ, List.setIfInBounds_toArray, List.set_cons_zero, List.set_cons_succ]
          refine wpAnyH_done (by kernel_rfl) ?_ _
          rw [HWW.out]
          have y0 : WW.cell? ⟨gr, m * 2 + 1, none⟩ = some (.int .i64 q) := by have := ownM_at HOW.out (i := m) (j := 1) hmn (by omega); rw [HEQ.out] at this; exact this
          have y1 : WW.frozen? ⟨gr, m * 2 + 1, none⟩ = false := HOW.out.frozenAt (m * 2 + 1)
          have y2 : WW.cell? ⟨gb, 1, none⟩ = some (.int .i64 b) := by rw [← HGB.out]; exact HX.out.cell 1
          have HON : Hid ((WW.setCell ⟨gr, m * 2 + 1, none⟩ (.int .i64 y)).drew.ownsRow w3.heap.size 26 2 (.slice (some ⟨gr, 0, none⟩) nR cr) (R' ++ [(p, y)]).length (rowM 2 (zS (R' ++ [(p, y)])) (R' ++ [(p, y)]).length)) := Lib.hid (by
            have := ownM_put HOW.out (i := m) (j := 1) (by omega) y
            have e := rowS_last R' p q y
            rw [HMm.out, ← HRR.out, ← HmR.out] at e
            rw [e] at this
            rw [List.length_append, HMm.out, show m + [(p, y)].length = nR by rw [HmR.out]; rfl]
            exact ownM_below this (Below.refl _ _).drew)
          have HBN : Hid (Below w3.heap.size w3 (WW.setCell ⟨gr, m * 2 + 1, none⟩ (.int .i64 y)).drew) := Lib.hid ((HW.out.setCell (p := ⟨gr, m * 2 + 1, none⟩) hgr _).drew)
          clear HS8 k0 k1
          go_wp2_with fail
          refine wp_region_held_drew (S := (fun _ : World => True)) (by kernel_rfl) trivial (fun hHeld => ?_)
          clear hHeld
          refine wpAnyH_take (i := 0) (v := ?_) rfl (by kernel_rfl) (by kernel_rfl) (by kernel_rfl) (fun _ _ _ h => h) (Or.inl ⟨by rfl, ?_⟩) trivial ?_
          rotate_left
          · (intro wS hSw; (try dsimp only at hSw); go_simp; try with_reducible rfl)
          simp only [Act.put, List.getElem_toArray, List.getElem_cons_zero, List.getElem_cons_succ, List.setIfInBounds_toArray, List.set_cons_zero, List.set_cons_succ]
          refine wpAnyH_take (i := 1) (v := ?_) rfl (by kernel_rfl) (by kernel_rfl) (by kernel_rfl) (fun _ _ _ h => h) (Or.inl ⟨by rfl, ?_⟩) trivial ?_
          rotate_left
          · (intro wS hSw; (try dsimp only at hSw); go_simp; try with_reducible rfl)
          simp only [Act.put, List.getElem_toArray, List.getElem_cons_zero, List.getElem_cons_succ, List.setIfInBounds_toArray, List.set_cons_zero, List.set_cons_succ]
          refine wpAnyH_take (i := 2) (v := ?_) rfl (by kernel_rfl) (by kernel_rfl) (by kernel_rfl) (fun _ _ _ h => h) (Or.inl ⟨by rfl, ?_⟩) trivial ?_
          rotate_left
          · (intro wS hSw; (try dsimp only at hSw); go_simp; try with_reducible rfl)
          simp only [Act.put, List.getElem_toArray, List.getElem_cons_zero, List.getElem_cons_succ, List.setIfInBounds_toArray, List.set_cons_zero, List.set_cons_succ]
          refine wpAnyH_take (i := 3) (v := ?_) rfl (by kernel_rfl) (by kernel_rfl) (by kernel_rfl) (fun _ _ _ h => h) (Or.inl ⟨by rfl, ?_⟩) trivial ?_
          rotate_left
          · (intro wS hSw; (try dsimp only at hSw); go_simp; try with_reducible rfl)
          simp only [Act.put, List.getElem_toArray, List.getElem_cons_zero, List.getElem_cons_succ, List.setIfInBounds_toArray, List.set_cons_zero, List.set_cons_succ]
          refine wpAnyH_take (i := 4) (v := ?_) rfl (by kernel_rfl) (by kernel_rfl) (by kernel_rfl) (fun _ _ _ h => h) (Or.inl ⟨by rfl, ?_⟩) trivial ?_
          rotate_left
          · (intro wS hSw; (try dsimp only at hSw); go_simp; try with_reducible rfl)
          simp only [Act.put, List.getElem_toArray, List.getElem_cons_zero, List.getElem_cons_succ, List.setIfInBounds_toArray, List.set_cons_zero, List.set_cons_succ]
          refine wpAnyH_take (i := 5) (v := ?_) rfl (by kernel_rfl) (by kernel_rfl) (by kernel_rfl) (fun _ _ _ h => h) (Or.inl ⟨by rfl, ?_⟩) trivial ?_
          rotate_left
          · (intro wS hSw; (try dsimp only at hSw); go_simp; try with_reducible rfl)
          simp only [Act.put, List.getElem_toArray, List.getElem_cons_zero, List.getElem_cons_succ, List.setIfInBounds_toArray, List.set_cons_zero, List.set_cons_succ]
          refine wpAnyH_take (i := 7) (v := ?_) rfl (by kernel_rfl) (by kernel_rfl) (by kernel_rfl) (fun _ _ _ h => h) (Or.inl ⟨by rfl, ?_⟩) trivial ?_
          rotate_left
          · (intro wS hSw; (try dsimp only at hSw); go_simp; try with_reducible rfl)
          simp only [Act.put, List.getElem_toArray, List.getElem_cons_zero, List.getElem_cons_succ, List.setIfInBounds_toArray, List.set_cons_zero, List.set_cons_succ]
          refine wpAnyH_ready (rs := [6, 8]) (by kernel_rfl) (by simp) ?_
          refine AllReadyH.cons rfl (fun K hK => ?_) (AllReadyH.cons rfl (fun K hK => ?_) AllReadyH.nil)
          · go_simp
            refine hK.out _ _ trivial (fun hHeld => ?_)
            clear hK K hHeld
            try simp only [Act.put, List.getElem_toArray, List.getElem_cons_zero, List.getElem_cons_succ, List.setIfInBounds_toArray, List.set_cons_zero, List.set_cons_succ]
            refine wpAnyH_ready (rs := [8]) (by kernel_rfl) (by simp) ?_
            refine AllReadyH.cons rfl (fun K hK => ?_) AllReadyH.nil
            go_simp
            refine hK.out _ _ trivial (fun hHeld => ?_)
            clear hK K hHeld
            try simp only [Act.put, List.getElem_toArray, List.getElem_cons_zero, List.getElem_cons_succ, List.setIfInBounds_toArray, List.set_cons_zero, List.set_cons_succ]
            refine wpAnyH_take (i := 9) (v := ?_) rfl (by kernel_rfl) (by kernel_rfl) (by kernel_rfl) (fun _ _ _ h => h) (Or.inl ⟨by rfl, ?_⟩) trivial ?_
            rotate_left
            · (intro wS hSw; (try dsimp only at hSw); go_simp; try with_reducible rfl)
            simp only [Act.put, List.getElem_toArray, List.getElem_cons_zero, List.getElem_cons_succ, List.setIfInBounds_toArray, List.set_cons_zero, List.set_cons_succ]
            refine wpAnyH_take (i := 10) (v := ?_) rfl (by kernel_rfl) (by kernel_rfl) (by kernel_rfl) (fun _ _ _ h => h) (Or.inl ⟨by rfl, ?_⟩) trivial ?_
            rotate_left
            · (intro wS hSw; (try dsimp only at hSw); go_simp; try with_reducible rfl)
            simp only [Act.put, List.getElem_toArray, List.getElem_cons_zero, List.getElem_cons_succ, List.setIfInBounds_toArray, List.set_cons_zero, List.set_cons_succ]
            refine wpAnyH_take (i := 11) (v := ?_) rfl (by kernel_rfl) (by kernel_rfl) (by kernel_rfl) (fun _ _ _ h => h) (Or.inl ⟨by rfl, ?_⟩) trivial ?_
            rotate_left
            · (intro wS hSw; (try dsimp only at hSw); go_simp; try with_reducible rfl)
            simp only [Act.put, List.getElem_toArray, List.getElem_cons_zero, List.getElem_cons_succ, List.setIfInBounds_toArray, List.set_cons_zero, List.set_cons_succ]
            refine wpAnyH_ready (rs := [12]) (by kernel_rfl) (by simp) ?_
            refine AllReadyH.cons rfl (fun K hK => ?_) AllReadyH.nil
            go_simp
            refine hK.out _ _ trivial (fun hHeld => ?_)
            clear hK K hHeld
            try simp only [Act.put, List.getElem_toArray, List.getElem_cons_zero, List.getElem_cons_succ, List.setIfInBounds_toArray, List.set_cons_zero, List.set_cons_succ]
            refine wpAnyH_done (by kernel_rfl) ?_ _
            go_wp2_with fail
            go_roundw
            case rel => exact ⟨k + 1, R' ++ [(p, y)], by go_num, by omega, HBN, HGN, HON, fun h => absurd h (by simp)⟩
            case measure => simp [intOf]; omega
          · go_simp
            refine hK.out _ _ trivial (fun hHeld => ?_)
            clear hK K hHeld
            try simp only [Act.put, List.getElem_toArray, List.getElem_cons_zero, List.getElem_cons_succ, List.setIfInBounds_toArray, List.set_cons_zero, List.set_cons_succ]
            refine wpAnyH_ready (rs := [6]) (by kernel_rfl) (by simp) ?_
            refine AllReadyH.cons rfl (fun K hK => ?_) AllReadyH.nil
            go_simp
            refine hK.out _ _ trivial (fun hHeld => ?_)
            clear hK K hHeld
            try simp only [Act.put, List.getElem_toArray, List.getElem_cons_zero, List.getElem_cons_succ, List.setIfInBounds_toArray, List.set_cons_zero, List.set_cons_succ]
            refine wpAnyH_take (i := 9) (v := ?_) rfl (by kernel_rfl) (by kernel_rfl) (by kernel_rfl) (fun _ _ _ h => h) (Or.inl ⟨by rfl, ?_⟩) trivial ?_
            rotate_left
            · (intro wS hSw; (try dsimp only at hSw); go_simp; try with_reducible rfl)
            simp only [Act.put, List.getElem_toArray, List.getElem_cons_zero, List.getElem_cons_succ, List.setIfInBounds_toArray, List.set_cons_zero, List.set_cons_succ]
            refine wpAnyH_take (i := 10) (v := ?_) rfl (by kernel_rfl) (by kernel_rfl) (by kernel_rfl) (fun _ _ _ h => h) (Or.inl ⟨by rfl, ?_⟩) trivial ?_
            rotate_left
            · (intro wS hSw; (try dsimp only at hSw); go_simp; try with_reducible rfl)
            simp only [Act.put, List.getElem_toArray, List.getElem_cons_zero, List.getElem_cons_succ, List.setIfInBounds_toArray, List.set_cons_zero, List.set_cons_succ]
            refine wpAnyH_take (i := 11) (v := ?_) rfl (by kernel_rfl) (by kernel_rfl) (by kernel_rfl) (fun _ _ _ h => h) (Or.inl ⟨by rfl, ?_⟩) trivial ?_
            rotate_left
            · (intro wS hSw; (try dsimp only at hSw); go_simp; try with_reducible rfl)
            simp only [Act.put, List.getElem_toArray, List.getElem_cons_zero, List.getElem_cons_succ, List.setIfInBounds_toArray, List.set_cons_zero, List.set_cons_succ]
            refine wpAnyH_ready (rs := [12]) (by kernel_rfl) (by simp) ?_
            refine AllReadyH.cons rfl (fun K hK => ?_) AllReadyH.nil
            go_simp
            refine hK.out _ _ trivial (fun hHeld => ?_)
            clear hK K hHeld
            try simp only [Act.put, List.getElem_toArray, List.getElem_cons_zero, List.getElem_cons_succ, List.setIfInBounds_toArray, List.set_cons_zero, List.set_cons_succ]
            refine wpAnyH_done (by kernel_rfl) ?_ _
            go_wp2_with fail
            go_roundw
            case rel => exact ⟨k + 1, R' ++ [(p, y)], by go_num, by omega, HBN, HGN, HON, fun h => absurd h (by simp)⟩
            case measure => simp [intOf]; omega
    · have hkk : k = nM := by omega
      have HRT := Lib.hid HG.out.right
      have HRH : Hid (∀ n, hasL R n = hasL L n) := Lib.hid fun n => by
        rw [HG.out.has n, List.take_of_length_le (by rw [HNM.out]; omega)]
        exact has_perm HPM.out n
      have HS := Lib.hid (own_isS HO.out (rt_bounds (a := L) (b := L) HRT.out (fun n => by rw [HRH.out n, Bool.and_self]) HBD.out))
      have HLL : Hid (R.length ≤ L.length) := Lib.hid (by have := HG.out.len; omega)
      clear hkk
      go_wp2_with fail
      rw [← HZ.out]
      exact ⟨_, R, rfl, HS.out, HRT.out, HRH.out, HLL.out, HB3.out.trans (HB.out.mono HB3.out.size)⟩
end Go.Proofs.Ytiinlidilkdfbaa
