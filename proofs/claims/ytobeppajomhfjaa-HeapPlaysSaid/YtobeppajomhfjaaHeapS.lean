/- heap.Make: a heap out of entries in order. -/
import Derived.Test.YtobeppajomhfjaaHeapR
import Derived.WalkKit
import Derived.IntWalk
import Derived.Lib.Hide
import Derived.WalkSpells
import Derived.WalkLawsBesides
import Derived.OwnWalk
import Derived.BigRegion
import Derived.Deep.LoopGhost
import Derived.Deep.RegionHeld3
import Derived.Deep.QuietTactic
import Derived.BigQuiet
import Derived.Laws.CopyOwn
import Derived.Laws.MakeOwn
import Derived.Laws.OwnMore
import Derived.Laws.AppendOwnNone
namespace Go.Proofs.Ytobeppajomhfjaa
open Go.RowKit
set_option linter.unusedVariables false
set_option linter.unusedSimpArgs false
theorem heap_putgrow (w : World) (g k : Nat) (F : Array Value) (os : Array Obj) {cur : Array Value} {e : TypeId} {fr : Nat × Nat} (h : w.heap[g]? = some (.cells cur e fr)) : (Sort.grow (Sort.putRow id (Sort.ahead w k) g 0 F) os).heap[g]? = some (.cells (Sort.putCells id 0 F cur) e fr) := by
  have hl : g < w.heap.size := by
    rcases Nat.lt_or_ge g w.heap.size with h1 | h1
    · exact h1
    · rw [Array.getElem?_eq_none h1] at h; cases h
  have h1 : (Sort.putRow id (Sort.ahead w k) g 0 F).heap[g]? = some (.cells (Sort.putCells id 0 F cur) e fr) := by
    simp [Sort.putRow, Sort.mapBlock, Sort.ahead, Array.getElem?_modify, h, Sort.onCells]
  have h2 : g < (Sort.putRow id (Sort.ahead w k) g 0 F).heap.size := by rw [Sort.size_putRow]; exact hl
  show ((Sort.putRow id (Sort.ahead w k) g 0 F).heap ++ os)[g]? = _
  rw [Array.getElem?_append_left h2]
  exact h1
theorem own_owE {w : World} {B g c n : Nat} {L : List Ent} {cur : Array Value} (hg : B ≤ g) (hh : w.heap[g]? = some (.cells cur 24 (0, 0))) (hn : L.length = n) (hnc : n ≤ c) (hcm : c ≤ maxLen) (hcs : cur.size = c * 3) (ho : OwE w g L) : w.ownsRow B 24 3 (.slice (some ⟨g, 0, none⟩) n c) n (rowM 3 (zE L) n) := by
  refine ⟨rowM_len .., .inr ⟨g, c, cur, rfl, hg, hh, hnc, hcm, hcs, ?_⟩⟩
  apply List.ext_getElem?
  intro j
  rcases Nat.lt_or_ge j (n * 3) with h | h
  · rw [List.getElem?_take_of_lt h, Array.getElem?_toList]
    have h1 := (ho.2 (j / 3) (j % 3) (by omega) (by omega)).1
    have h2 := rowM_get (m := 3) (n := n) (z := zE L) (i := j / 3) (j := j % 3) (by omega) (by omega)
    have e : j / 3 * 3 + j % 3 = j := by omega
    rw [e] at h1 h2
    rw [h2, ← h1]
    exact (blk_cell hh j).symm
  · rw [List.getElem?_eq_none (by simp; omega), List.getElem?_eq_none (by rw [rowM_len]; exact h)]
def SorO (L : List Ent) (B g c n : Nat) (w : World) (e : Ending) (w' : World) : Prop := e = .returned (.tuple #[]) ∧ ∃ M, M.Perm L ∧ OrdE M ∧ w'.ownsRow B 24 3 (.slice (some ⟨g, 0, none⟩) n c) n (rowM 3 (zE M) n) ∧ Below g w w'
theorem sortO_any (B g c n : Nat) (L : List Ent) (w : World) (h : w.ownsRow B 24 3 (.slice (some ⟨g, 0, none⟩) n c) n (rowM 3 (zE L) n)) (hn : L.length = n) (h0 : 0 < n) (hl : n ≤ 1000) :
    Calls Try.prog 31 #[.slice (some ⟨g, 0, none⟩) n c, .func (.func 24) #[] #[]] w (SorO L B g c n w) := by
  subst hn
  have hOw : OwE w g L := ⟨lt_of_cell (ownM_at h (i := 0) (j := 0) h0 (by omega)), fun i j hi hj => ⟨ownM_at h hi hj, h.frozenAt _⟩⟩
  rcases h.2 with ⟨hv, _⟩ | ⟨g', cap', cur, hv, hg, hh, hnc, hcm, hcs, _⟩
  · cases hv
  simp only [Value.slice.injEq, Option.some.injEq, Addr.mk.injEq, and_true, true_and] at hv
  obtain ⟨rfl, rfl⟩ := hv
  have eg : ∀ args w, (callFunc 24 args).run Try.prog w = .ok (.enter 24 args) w := enters_of Try.func24 (by kernel_rfl) rfl
  have hcon := AnyQ.slices_SortFunc Try.sortEnt 3 Try.isAgg24 Try.sizeOf24 encE (fun _ => rfl) (fun x v hv => by simp [encE] at hv; rcases hv with rfl | rfl | rfl <;> rfl) cfE swoE 24 #[] g 0 c L.toArray w eg (fun _ _ _ _ x y => ecompare_any x y _) hOw.holds hOw.1 (by simp; omega)
  change Calls Try.prog 31 _ _ _ at hcon
  rw [List.size_toArray] at hcon
  refine hcon.mono ?_
  rintro e w' ⟨rfl, d', n, os, ⟨hs, _, hp⟩, hso, rfl⟩
  have hs' : d'.size = L.length := by simpa using hs
  have hperm : d'.toList.Perm L := by
    rw [← hs', Array.extract_size] at hp
    rw [hs', show L.length = L.toArray.size by simp, Array.extract_size] at hp
    simpa using hp
  refine ⟨rfl, d'.toList, hperm, ?_, ?_, ?_⟩
  · intro i j hij hj
    have hj' : j < d'.size := by simpa using hj
    have := hso i j (Nat.zero_le _) hij (by omega)
    rw [ltEN, getElem!_pos d' j hj', getElem!_pos d' i (by omega)] at this
    simpa using this
  · have ho := holds_owE (lt_sortWorldK encE 3 w g 0 n d' os hOw.1) (holdsK_sortWorldK encE 3 w g 0 n L.toArray d' os hOw.1 hOw.holds hs)
    exact own_owE hg (heap_putgrow w g n (Sort.flatK encE 3 d') os hh) hperm.length_eq hnc hcm (by simp [Sort.putCells, hcs]) ho
  · have hb : Below g w (Sort.putRow id (Sort.ahead w n) g 0 (Sort.flatK encE 3 d')) := Lib.below_putRow (Below.refl g w) (Nat.le_refl _)
    have hb2 := below_growE (Sort.putRow id (Sort.ahead w n) g 0 (Sort.flatK encE 3 d')) os
    exact hb.trans (hb2.mono (by rw [Sort.size_putRow]; show g ≤ w.heap.size; have := hOw.1; omega))
theorem own_base {w : World} {B B' m n : Nat} {e : TypeId} {v : Value} {xs : List Value} (h : w.ownsRow B e m v n xs) (hb : B' ≤ B) : w.ownsRow B' e m v n xs := by
  refine ⟨h.1, ?_⟩
  rcases h.2 with hn | ⟨g, cap, cur, h1, h2, rest⟩
  · exact .inl hn
  · exact .inr ⟨g, cap, cur, h1, Nat.le_trans hb h2, rest⟩
def SrtO (L : List Ent) (B : Nat) (w : World) (e : Ending) (w' : World) : Prop := ∃ v' M, e = .returned v' ∧ M.Perm L ∧ OrdE M ∧ w'.ownsRow B 24 3 v' M.length (rowM 3 (zE M) M.length) ∧ Below w.heap.size w w'
set_option maxHeartbeats 4000000 in
theorem sortedFO_any (Bs b o c : Nat) (A : Option Addr) (L : List Ent) (w : World) (hz : L.length ≤ 1000) (hL : LiesE w Bs b o c A L) :
    Calls Try.prog 22 #[.func (.func 32) #[] #[.pointer (some ⟨Bs, 0, none⟩)], .func (.func 24) #[] #[]] w (SrtO L w.heap.size w) := by
  have K := Lib.hid (collectE_any Bs b o c A L w hz hL)
  clear hL
  go_enter Try.func22, Try.ntmps22
  go_wp2_with fail
  refine K.out.mono ?_
  rintro e w1 ⟨v, rfl, ho, hb⟩
  rcases Nat.eq_zero_or_pos L.length with h0 | h0
  · obtain rfl := List.length_eq_zero_iff.1 h0
    obtain ⟨g, cap, rfl⟩ := ownM_slice ho
    have HO := Lib.hid ho; have HB := Lib.hid hb
    clear ho hb
    go_wp2_with fail
    refine (sortE_none g cap w1).mono ?_
    rintro e w2 ⟨rfl, rfl⟩
    go_wp2_with fail
    go_ret
    exact ⟨_, [], rfl, List.Perm.refl _, fun i j _ h => absurd h (Nat.not_lt_zero _), HO.out, HB.out⟩
  · obtain ⟨g, cap, rfl, hge, hcap⟩ := ownM_head ho h0
    obtain ⟨n, hn⟩ : ∃ n, L.length = n := ⟨_, rfl⟩
    rw [hn] at ho h0 hz hcap ⊢
    have KS := Lib.hid (sortO_any w.heap.size g cap n L w1 ho hn h0 hz)
    have HB := Lib.hid hb
    clear ho hb
    go_wp2_with fail
    refine KS.out.mono ?_
    rintro e w2 ⟨rfl, M, hp, hs, ho, hb⟩
    have HP := Lib.hid hp; have HS := Lib.hid hs; have HO := Lib.hid ho
    have HB2 := Lib.hid (HB.out.trans (hb.mono hge))
    have HM : Hid (M.length = n) := Lib.hid (by rw [hp.length_eq, hn])
    clear hp hs ho hb
    go_wp2_with fail
    go_ret
    exact ⟨_, M, rfl, HP.out, HS.out, by rw [HM.out]; exact HO.out, HB2.out⟩
set_option maxHeartbeats 4000000 in
theorem sortedO_any (v : Value) (L : List Ent) (w : World) (hv : IsE w v L) (hz : L.length ≤ 1000) : Calls Try.prog 7 #[v] w (SrtO L w.heap.size w) := by
  obtain ⟨A, c, rfl, hr, h1, h2, h3⟩ := hv
  have ha := (Below.refl w.heap.size w).alloc (Nat.le_refl _) (.cells #[.slice A L.length c] 22)
  have hl : ∃ b o, LiesE (w.alloc (.cells #[.slice A L.length c] 22)) w.heap.size b o c A L := by
    have hbx := (Blk.new w #[.slice A L.length c] 22).cell 0
    rcases Nat.eq_zero_or_pos L.length with h0 | h0
    · exact ⟨w.heap.size, 0, fun h => absurd h (by omega), by simp, by simp, hbx, fun i j hi => absurd hi (by omega)⟩
    · obtain ⟨b, o, rfl, hlt, hc⟩ := rdZ_row hr (by omega) (by omega)
      exact ⟨b, o, fun _ => rfl, by simp; omega, by simp, hbx, fun i j hi hj => (ha.cell (p := ⟨b, o + i * 3 + j, none⟩) (lt_of_cell (hc i j hi hj))).trans (hc i j hi hj)⟩
  obtain ⟨b, o, hl⟩ := hl
  have K := Lib.hid (sortedFO_any w.heap.size b o c A L _ hz hl)
  have HA := Lib.hid ha
  clear hl hr ha
  go_enter Try.func7, Try.ntmps7
  go_wp2_with fail
  refine (values_any A L.length c w).mono ?_
  rintro e w1 ⟨rfl, rfl⟩
  go_wp2_with fail
  refine K.out.mono ?_
  rintro e w2 ⟨v', M, rfl, p1, p2, p3, hb⟩
  have P1 := Lib.hid p1; have P2 := Lib.hid p2; have P3 := Lib.hid (own_base (B' := w.heap.size) p3 (by simp))
  have HB := Lib.hid (HA.out.trans (hb.mono (by simp)))
  clear p1 p2 p3 hb
  go_wp2_with fail
  go_ret
  exact ⟨v', M, rfl, P1.out, P2.out, P3.out, HB.out⟩
theorem own_wfE {L M : List Ent} {w : World} {v : Value} (hv : IsE w v L) (hp : M.Perm L) : ∀ y, y ∈ M → WfE y := fun y hy => hv.wf y (hp.mem_iff.1 hy)
set_option maxHeartbeats 4000000 in
theorem make_any (v : Value) (L : List Ent) (w : World) (hv : IsE w v L) (hz : L.length ≤ 1000) : Calls Try.prog 12 #[v] w fun e w' => ∃ g v' M, e = .returned (.pointer (some ⟨g, 0, none⟩)) ∧ M.Perm L ∧ OrdP M ∧ HpA w.heap.size w' g v' M ∧ Below w.heap.size w w' := by
  have HV := Lib.hid hv
  have K := Lib.hid (sortedO_any v L w hv hz)
  clear hv
  go_enter Try.func12, Try.ntmps12
  go_wp2_with fail
  refine K.out.mono ?_
  rintro e w1 ⟨v', M, rfl, p1, p2, p3, hb⟩
  obtain ⟨g0, cap0, hv0⟩ := ownM_slice p3
  have P1 := Lib.hid p1; have P2 := Lib.hid (ordP_of p2); have P3 := Lib.hid p3; have HB := Lib.hid hb; have HV0 := Lib.hid hv0
  subst hv0
  clear p1 p2 p3 hb
  go_wp2_with fail
  go_ret
  have hlt := P3.out.lt
  exact ⟨_, _, M, rfl, P1.out, P2.out, ⟨Blk.new w1 _ _, HB.out.size, fun e => absurd (hlt _ e).2 (by omega), ownM_below P3.out ((Below.refl _ _).alloc (Nat.le_refl _) _), own_wfE HV.out P1.out, heap_ord P2.out⟩, HB.out.alloc HB.out.size _⟩
end Go.Proofs.Ytobeppajomhfjaa
