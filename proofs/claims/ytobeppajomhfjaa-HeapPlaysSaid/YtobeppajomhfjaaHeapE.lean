/- heap.Sorted at any row of entries; heap.Less and the document's Less. -/
import Derived.Test.YtobeppajomhfjaaHeapD
import Derived.WalkKit
import Derived.IntWalk
import Derived.Lib.Hide
import Derived.WalkSpells
import Derived.WalkLawsBesides
import Derived.OwnWalk
import Derived.BigRegion
import Derived.Deep.LoopGhost
import Derived.Deep.RegionHeld3
import Derived.Deep.QuietTactic
import Derived.BigQuiet
namespace Go.Proofs.Ytobeppajomhfjaa
open Go.RowKit
set_option linter.unusedVariables false
set_option linter.unusedSimpArgs false
/-- a value that is a row of entries -/
def IsE (w : World) (v : Value) (L : List Ent) : Prop := ∃ A c, v = .slice A L.length c ∧ RdZ w 3 A L.length (zE L) ∧ L.length ≤ c ∧ c ≤ maxLen ∧ (A = none → c = 0)
theorem IsE.kept {w w' : World} {v : Value} {L : List Ent} (h : IsE w v L) (hb : Below w.heap.size w w') : IsE w' v L := by
  obtain ⟨A, c, h1, h2, h3⟩ := h; exact ⟨A, c, h1, RdZ.kept h2 hb, h3⟩
def WfE (x : Ent) : Prop := (Lit.int .i64 x.1).wf = true ∧ (Lit.int .i64 x.2.1).wf = true ∧ (Lit.int .i64 x.2.2).wf = true
theorem IsE.wf {w : World} {v : Value} {L : List Ent} (h : IsE w v L) : ∀ x, x ∈ L → WfE x := by
  intro x hx
  obtain ⟨A, c, _, hr, _⟩ := h
  obtain ⟨i, hi, e⟩ := List.getElem_of_mem hx
  rw [zE_at hi] at e
  obtain ⟨_, _, _, hc⟩ := hr i hi
  rw [← e]
  exact ⟨(hc 0 (by omega)).2, (hc 1 (by omega)).2, (hc 2 (by omega)).2⟩
theorem zE_wf {L : List Ent} (h : ∀ x, x ∈ L → WfE x) {i j : Nat} (hi : i < L.length) (hj : j < 3) : (Lit.int .i64 (zE L i j)).wf = true := by
  have hm := h _ (List.getElem_mem hi)
  rw [zE_at hi] at hm
  have h3 : j = 0 ∨ j = 1 ∨ j = 2 := by omega
  rcases h3 with rfl | rfl | rfl
  · exact hm.1
  · exact hm.2.1
  · exact hm.2.2
theorem owE_isE {w : World} {g c : Nat} {L : List Ent} (h : OwE w g L) (hw : ∀ x, x ∈ L → WfE x) (h1 : L.length ≤ c) (h2 : c ≤ maxLen) : IsE w (.slice (some ⟨g, 0, none⟩) L.length c) L :=
  ⟨_, c, rfl, fun i hi => ⟨⟨g, 0, none⟩, rfl, h.1, fun j hj => ⟨by
    have := (h.2 i j hi hj).1
    have e : (⟨g, 0, none⟩ : Addr).add (i * 3 + j) = ⟨g, i * 3 + j, none⟩ := by unfold Addr.add; split <;> simp_all
    rw [e]; exact this, zE_wf hw hi hj⟩⟩, h1, h2, fun e => by cases e⟩
theorem callsE {P : Program} {g : Nat} {args : Array Value} {w : World} {R : Ending → World → Prop} (h : CallsIn Fence.wide (0 + 3) P g args w R) : Calls P g args w R := (callsIn_wide (n := 0 + 3)).1 h
/-- where a row of entries lies: a block, a place -/
def LiesE (W : World) (Bs b o c : Nat) (A : Option Addr) (L : List Ent) : Prop := (0 < L.length → A = some ⟨b, o, none⟩) ∧ b < W.heap.size ∧ Bs < W.heap.size ∧ W.cell? ⟨Bs, 0, none⟩ = some (.slice A L.length c) ∧ ∀ i j, i < L.length → j < 3 → W.cell? ⟨b, o + i * 3 + j, none⟩ = some (.int .i64 (zE L i j))
theorem collectE_any (Bs b o c : Nat) (A : Option Addr) (L : List Ent) (w : World) (hz : L.length ≤ 1000) (hL : LiesE w Bs b o c A L) :
    Calls Try.prog 30 #[.func (.func 32) #[] #[.pointer (some ⟨Bs, 0, none⟩)]] w (AppR L w) := by
  have K := Lib.hid (callsE (appendSeq_in 0 Bs b o c A L w hz hL.1 hL.2.1 hL.2.2.1 hL.2.2.2.1 hL.2.2.2.2))
  clear hL
  go_enter Try.func30, Try.ntmps30
  go_wp2_with fail
  refine K.out.mono ?_
  rintro e w1 ⟨v, rfl, ho, hb⟩
  have HO := Lib.hid ho; have HB := Lib.hid hb
  clear ho hb
  go_wp2_with fail
  go_ret
  exact ⟨v, rfl, HO.out, HB.out⟩
def SrtR (L : List Ent) (w : World) (e : Ending) (w' : World) : Prop := ∃ v' M, e = .returned v' ∧ M.Perm L ∧ OrdE M ∧ IsE w' v' M ∧ Below w.heap.size w w'
set_option maxHeartbeats 4000000 in
theorem sortedF_any (Bs b o c : Nat) (A : Option Addr) (L : List Ent) (w : World) (hz : L.length ≤ 1000) (hL : LiesE w Bs b o c A L) (hw : ∀ x, x ∈ L → WfE x) :
    Calls Try.prog 22 #[.func (.func 32) #[] #[.pointer (some ⟨Bs, 0, none⟩)], .func (.func 24) #[] #[]] w (SrtR L w) := by
  have K := Lib.hid (collectE_any Bs b o c A L w hz hL)
  have HW := Lib.hid hw
  clear hL hw
  go_enter Try.func22, Try.ntmps22
  go_wp2_with fail
  refine K.out.mono ?_
  rintro e w1 ⟨v, rfl, ho, hb⟩
  rcases Nat.eq_zero_or_pos L.length with h0 | h0
  · obtain rfl := List.length_eq_zero_iff.1 h0
    obtain ⟨g, cap, rfl⟩ := ownM_slice ho
    have hcap : (g = none → cap = 0) ∧ cap ≤ maxLen := by
      rcases ho.2 with ⟨h, _⟩ | ⟨_, _, _, h, _, _, _, hc, _⟩
      · simp only [Value.slice.injEq] at h; exact ⟨fun _ => h.2.2, by rw [h.2.2]; unfold maxLen; omega⟩
      · simp only [Value.slice.injEq] at h; exact ⟨fun e => by rw [e] at h; simp at h, by omega⟩
    have HC := Lib.hid hcap; have HB := Lib.hid hb
    clear hcap ho hb
    go_wp2_with fail
    refine (sortE_none g cap w1).mono ?_
    rintro e w2 ⟨rfl, rfl⟩
    go_wp2_with fail
    go_ret
    exact ⟨_, [], rfl, List.Perm.refl _, fun i j _ h => absurd h (Nat.not_lt_zero _), ⟨g, cap, rfl, fun i hi => absurd hi (Nat.not_lt_zero _), Nat.zero_le _, HC.out.2, HC.out.1⟩, HB.out⟩
  · obtain ⟨g, cap, rfl, hge, hcap⟩ := ownM_head ho h0
    have hcm : cap ≤ maxLen := by
      rcases ho.2 with ⟨hv, _⟩ | ⟨g', cap', cur, hv, _, _, _, hc, _⟩
      · cases hv
      · simp only [Value.slice.injEq] at hv; omega
    have hc0 := ownM_at ho (i := 0) (j := 0) h0 (by omega)
    have KS := Lib.hid (sortE_any g cap L w1 ⟨lt_of_cell hc0, fun i j hi hj => ⟨ownM_at ho hi hj, ho.frozenAt _⟩⟩ hz)
    have HB := Lib.hid hb
    clear ho hb hc0
    go_wp2_with fail
    refine KS.out.mono ?_
    rintro e w2 ⟨rfl, M, hp, hs, ho, hb⟩
    have HP := Lib.hid hp; have HS := Lib.hid hs
    have HE : Hid (IsE w2 (.slice (some ⟨g, 0, none⟩) L.length cap) M) := Lib.hid (by
      rw [← hp.length_eq]
      exact owE_isE ho (fun x hx => HW.out x (hp.mem_iff.1 hx)) (by rw [hp.length_eq]; exact hcap) hcm)
    have HB2 := Lib.hid (HB.out.trans (hb.mono hge))
    clear hp hs ho hb
    go_wp2_with fail
    go_ret
    exact ⟨_, M, rfl, HP.out, HS.out, HE.out, HB2.out⟩
set_option maxHeartbeats 4000000 in
theorem sorted_any (v : Value) (L : List Ent) (w : World) (hv : IsE w v L) (hz : L.length ≤ 1000) : Calls Try.prog 7 #[v] w (SrtR L w) := by
  have hw := hv.wf
  obtain ⟨A, c, rfl, hr, h1, h2, h3⟩ := hv
  have ha := (Below.refl w.heap.size w).alloc (Nat.le_refl _) (.cells #[.slice A L.length c] 22)
  have hl : ∃ b o, LiesE (w.alloc (.cells #[.slice A L.length c] 22)) w.heap.size b o c A L := by
    have hbx := (Blk.new w #[.slice A L.length c] 22).cell 0
    rcases Nat.eq_zero_or_pos L.length with h0 | h0
    · exact ⟨w.heap.size, 0, fun h => absurd h (by omega), by simp, by simp, hbx, fun i j hi => absurd hi (by omega)⟩
    · obtain ⟨b, o, rfl, hlt, hc⟩ := rdZ_row hr (by omega) (by omega)
      exact ⟨b, o, fun _ => rfl, by simp; omega, by simp, hbx, fun i j hi hj => (ha.cell (p := ⟨b, o + i * 3 + j, none⟩) (lt_of_cell (hc i j hi hj))).trans (hc i j hi hj)⟩
  obtain ⟨b, o, hl⟩ := hl
  have K := Lib.hid (sortedF_any w.heap.size b o c A L _ hz hl hw)
  have HA := Lib.hid ha
  clear hl hr hw ha
  go_enter Try.func7, Try.ntmps7
  go_wp2_with fail
  refine (values_any A L.length c w).mono ?_
  rintro e w1 ⟨rfl, rfl⟩
  go_wp2_with fail
  refine K.out.mono ?_
  rintro e w2 ⟨v', M, rfl, p1, p2, p3, hb⟩
  have P1 := Lib.hid p1; have P2 := Lib.hid p2; have P3 := Lib.hid p3
  have HB := Lib.hid (HA.out.trans (hb.mono (by simp)))
  clear p1 p2 p3 hb
  go_wp2_with fail
  go_ret
  exact ⟨v', M, rfl, P1.out, P2.out, P3.out, HB.out⟩
/-- does an entry come ahead?, as a truth value -/
def ltb (x y : Ent) : Bool := decide (cfE x y < 0)
theorem ltb_iff (x y : Ent) : ltb x y = true ↔ ltE x y := by unfold ltb; rw [decide_eq_true_eq, cfE_lt]
set_option maxHeartbeats 4000000 in
theorem less_any (x y : Ent) (w : World) : Calls Try.prog 9 #[aE x, aE y] w fun e w' => e = .returned (.bool (ltb x y)) ∧ Below w.heap.size w w' := by
  have K := fun W => ecompare_any x y W
  unfold ltb
  obtain ⟨r, hr⟩ : ∃ r, cfE x y = r := ⟨_, rfl⟩
  rw [hr] at K ⊢
  clear hr
  obtain ⟨a, b, c⟩ := x
  obtain ⟨d, f, g⟩ := y
  unfold aE at K ⊢
  dsimp only at K ⊢
  have HK := Lib.hid K
  clear K
  go_enter Try.func9, Try.ntmps9
  go_wp2_with fail
  refine (HK.out _).mono ?_
  rintro e w1 ⟨rfl, q, os, rfl⟩
  go_wp2_with fail
  go_ret
  have h2 : Below w.heap.size w (((w.alloc (.cells #[.int .i64 a, .int .i64 b, .int .i64 c] 24)).alloc (.cells #[.int .i64 d, .int .i64 f, .int .i64 g] 24)).drewN q) := below_drewN (((Below.refl w.heap.size w).alloc (Nat.le_refl _) _).alloc (by simp) _) q
  exact ⟨rfl, h2.trans ((below_growE _ os).mono h2.size)⟩
set_option maxHeartbeats 4000000 in
theorem dless_any (x y : Ent) (w : World) : Calls Try.prog 10 #[aE x, aE y] w fun e w' => e = .returned (.bool (ltb x y)) ∧ Below w.heap.size w w' := by
  have hi := ltb_iff x y
  obtain ⟨r, hr⟩ : ∃ r, ltb x y = r := ⟨_, rfl⟩
  rw [hr] at hi ⊢
  clear hr
  obtain ⟨a, b, c⟩ := x
  obtain ⟨d, f, g⟩ := y
  unfold ltE at hi
  unfold aE
  dsimp only at hi ⊢
  have HI := Lib.hid hi
  clear hi
  by_cases h1 : a = d
  · subst h1
    by_cases h2 : b = f
    · subst h2
      have e : r = decide (c < g) := by rw [Bool.eq_iff_iff, HI.out, decide_eq_true_eq]; omega
      subst e
      clear HI
      go_enter Try.func10, Try.ntmps10
      go_wp2_with fail
      go_ret
      exact ⟨rfl, ((Below.refl w.heap.size w).alloc (Nat.le_refl _) _).alloc (by simp) _⟩
    · have e : r = decide (b < f) := by rw [Bool.eq_iff_iff, HI.out, decide_eq_true_eq]; omega
      subst e
      have hb : (b != f) = true := by simpa using h2
      clear HI h2
      go_enter Try.func10, Try.ntmps10
      go_wp2_with fail
      go_ret
      exact ⟨rfl, ((Below.refl w.heap.size w).alloc (Nat.le_refl _) _).alloc (by simp) _⟩
  · have e : r = decide (a < d) := by rw [Bool.eq_iff_iff, HI.out, decide_eq_true_eq]; omega
    subst e
    have hb : (a != d) = true := by simpa using h1
    clear HI h1
    go_enter Try.func10, Try.ntmps10
    go_wp2_with fail
    go_ret
    exact ⟨rfl, ((Below.refl w.heap.size w).alloc (Nat.le_refl _) _).alloc (by simp) _⟩
end Go.Proofs.Ytobeppajomhfjaa
