/- Parking: where cars wait, by rows of plans. -/
import Derived.Test.YtloplambpfjioaaRows
import Derived.Test.YtloplambpfjioaaRowKit
import Derived.Test.YtloplambpfjioaaRowS
import Derived.Test.YtloplambpfjioaaRowZ
import Derived.Test.YtloplambpfjioaaSlicesEq
import Derived.Test.YtloplambpfjioaaSlicesEqM
import Derived.Test.YtloplambpfjioaaRowL
import Derived.Test.YtloplambpfjioaaRowM
import Derived.Test.YtloplambpfjioaaMakeI
import Derived.Test.YtloplambpfjioaaBlocks
import Derived.Test.YtloplambpfjioaaParkF
import Derived.Laws.IdiomCopy
import Derived.Test.YtloplambpfjioaaParkPlan
import Derived.Test.YtloplambpfjioaaRowM
import Derived.Test.YtloplambpfjioaaPlaceA
import Derived.Test.YtloplambpfjioaaShelf
import Derived.WalkKit
import Derived.IntWalk
import Derived.Lib.Hide
import Derived.WalkSpells
import Derived.WalkLawsBesides
import Derived.Laws.CopyOwn
import Derived.Laws.MakeOwn
import Derived.Laws.OwnMore
import Derived.OwnWalk
import Derived.Deep.QuietTactic
import Derived.BigQuiet
import Derived.Deep.RegionHeld3
import Derived.Deep.LoopGhost
import Derived.BigRegion
import Derived.Deep.AppendLies
import Derived.Maps.AppendAt
import Derived.Below
namespace Go.Proofs.Ytloplambpfjioaa
open Go.RowKit
set_option linter.unusedSimpArgs false
set_option linter.unusedVariables false
theorem intInfo' : (Try.prog.info? 3).map (fun i => (i.zero, i.size, i.bytes)) = some (some (.int .i64 0), 1, 8) := by kernel_rfl
/-- where cars wait, by the program's rows -/
def chP (A : Nat → Nat → Nat → Int) (k e : Nat) : List Int := chn (fun k e => (rwP A k e 0).toNat) (fun k e => (rwP A k e 1).toNat) k e
theorem chP_zero (A : Nat → Nat → Nat → Int) (k : Nat) : chP A k 0 = [] := chn_zero _ _ _
theorem chP_step (A : Nat → Nat → Nat → Int) {k e b m : Nat} (h0 : 0 < e) (hb : rwP A k e 0 = b) (hm : rwP A k e 1 = m) (hk : k = 0 → b = 0) : chP A k e = chP A (k - 1) b ++ [(m : Int)] := by
  unfold chP
  cases k with
  | zero =>
    rw [hk rfl, chn_zero]
    show (if e = 0 then [] else [(((rwP A 0 e 1).toNat : Nat) : Int)]) = _
    rw [if_neg (by omega), hm]; rfl
  | succ k =>
    show (if e = 0 then [] else chn _ _ k (rwP A (k + 1) e 0).toNat ++ [(((rwP A (k + 1) e 1).toNat : Nat) : Int)]) = _
    rw [if_neg (by omega), hm, hb]; rfl
theorem below_setC {B b : Nat} {a : World} (hb : B ≤ b) : ∀ (vs : List Value) (o : Nat) (w : World), Below B a w → Below B a (w.setCells b o vs)
  | [], _, _, h => h
  | v :: vs, o, w, h => below_setC hb vs (o + 1) _ (h.setCell (p := ⟨b, o, none⟩) hb v)
def RvR (zs : List Int) (base : Nat) (v : Value) (w : World) (e : Ending) (w' : World) : Prop := e = .returned (.tuple #[]) ∧ (∃ A c, v = .slice A zs.length c ∧ RdI w' .i64 A zs.reverse) ∧ Below base w w'
theorem rev_own (v : Value) (base : Nat) (zs : List Int) (w : World) (h : w.ownsRow base 3 1 v zs.length (zs.map (Value.int .i64))) (h0 : 0 < zs.length) (h1 : zs.length ≤ 1000000) (hwf : ∀ x, x ∈ zs → -9223372036854775808 ≤ x ∧ x ≤ 9223372036854775807) :
    Calls Try.prog 23 #[v] w (RvR zs base v w) := by
  obtain ⟨g, cap, rfl, hg, hc⟩ := ownR_head h h0
  have hcell : ∀ j, j < zs.length → w.cell? ⟨g, 0 + j, none⟩ = some (.int .i64 (zs.getD j 0)) := fun j hj => by
    rw [Nat.zero_add, h.cellAt j (by omega), List.getElem?_map, List.getElem?_eq_getElem hj, List.getD_eq_getElem?_getD, List.getElem?_eq_getElem hj]; rfl
  have hgl : g < w.heap.size := lt_of_cell (hcell 0 h0)
  refine (Try.slices_Reverse_int_cells g 0 zs.length cap zs w (Nat.le_refl _) (by omega) hcell (fun j _ => h.frozenAt _)).mono ?_
  rintro e w2 ⟨rfl, q, rfl⟩
  rw [List.take_length]
  have hB : Below base w ((w.drewN q).setCells g 0 (zs.reverse.map (Value.int .i64))) := below_setC hg _ _ _ (by
    exact ⟨rfl, rfl, rfl, Nat.le_refl _, fun _ _ => rfl⟩)
  refine ⟨rfl, ⟨some ⟨g, 0, none⟩, cap, rfl, rdI_mk (fun i hi => ⟨?_, ?_⟩)⟩, hB⟩
  · rw [List.length_reverse] at hi
    have := World.cell?_setCells_in g (zs.reverse.map (Value.int .i64)) 0 (w.drewN q) (fun j hj => by
      simp at hj
      have := hcell j hj
      show (w.cell? ⟨g, 0 + j, none⟩).isSome = true
      rw [this]; rfl) i (by simpa using hi)
    rw [this]
    have : (zs.reverse.map (Value.int .i64))[i]'(by simpa using hi) = .int .i64 (zat zs.reverse i) := by
      rw [List.getElem_map]
      unfold zat
      rw [List.getD_eq_getElem?_getD, List.getElem?_eq_getElem (by simpa using hi)]; rfl
    rw [this]
  · rw [List.length_reverse] at hi
    have hm : zat zs.reverse i ∈ zs := by
      unfold zat
      rw [List.getD_eq_getElem?_getD, List.getElem?_eq_getElem (by simpa using hi)]
      exact List.mem_reverse.1 (List.getElem_mem (by simpa using hi))
    have := hwf _ hm
    have e1 : IntKind.i64.min = -9223372036854775808 := by decide
    have e2 : IntKind.i64.max = 9223372036854775807 := by decide
    show (decide (IntKind.i64.min ≤ zat zs.reverse i) && decide (zat zs.reverse i ≤ IntKind.i64.max)) = true
    rw [e1, e2]
    simp; omega
def PlR (L : List Int) (w : World) (e : Ending) (w' : World) : Prop := ∃ P c, e = .returned (.slice P L.length c) ∧ RdI w' .i64 P L ∧ Below w.heap.size w w'
set_option maxRecDepth 100000 in
set_option maxHeartbeats 20000000 in
theorem places_any (B n K : Nat) (v : Value) (G : Nat → Nat) (l : Nat → Int) (A : Nat → Nat → Nat → Int) (w : World) (h0n : 0 < n) (h128 : n ≤ 128) (hK : 0 < K) (hK2 : K ≤ 1000) (hs : Sgs l n A) (hw : RwS w B n v K G (rwP A)) :
    Calls Try.prog 20 #[v, .int .i64 n] w (PlR (chP A (K - 1) n) w) := by
  obtain ⟨i0, hi, hz0, hz1, hz2⟩ := info_parts intInfo'
  obtain ⟨ga, cap, rfl, hcap, _, hcell⟩ := hw.at hK
  have HCL := Lib.hid hcell
  have HW := Lib.hid hw
  have hgal : ga < w.heap.size := lt_of_cell (hcell 0 hK)
  have HPA := Lib.hid (fun k e h0 he => plan_at (n := n) (l := l) (A := A) hs k (e := e) h0 he)
  have HMEM : Hid (∀ x, x ∈ chP A (K - 1) n → 0 ≤ x ∧ x < n) := Lib.hid (fun x hx => chn_mem (plans_of hs) (K - 1) n (Nat.le_refl _) x hx)
  obtain ⟨T, hT⟩ : ∃ T, chP A (K - 1) n = T := ⟨_, rfl⟩
  rw [hT] at HMEM ⊢
  have HT := Lib.hid hT
  have HTN : Hid (T ≠ []) := Lib.hid (by rw [← hT]; exact chn_ne _ h0n)
  obtain ⟨R, hR⟩ : ∃ R : Ending → World → Prop, PlR T w = R := ⟨_, rfl⟩
  have HRR := Lib.hid hR
  rw [hR]
  obtain ⟨K1, hK1⟩ : ∃ K1 : Nat, K - 1 = K1 := ⟨_, rfl⟩
  rw [hK1] at HT
  have hw1 : IntKind.i64.wrap ((K : Int) - 1) = (K1 : Int) := by rw [IntWalk.i64_in _ (by omega)]; omega
  have hw2 : wrap64 ((K : Int) - 1) = (K1 : Int) := by rw [IntWalk.wrap64_in _ (by omega)]; omega
  clear hw hR hcell hcap hT hs
  go_enter Try.func20, Try.ntmps20
  go_wp2_with fail
  clear hw1 hw2
  go_loopg [1, 5, 6] n (fun gh ev av kv wr => ∃ (e j : Nat) (κ : Int) (L : List Int), e ≤ n ∧ e = gh ∧ ev = .int .i64 e ∧ kv = .int .i64 κ ∧ Hid (0 < e → κ = j ∧ j < K) ∧ Hid (-1 ≤ κ ∧ κ ≤ 1000) ∧ Hid (T = chP A j e ++ L.reverse) ∧ Hid (L.length + e ≤ n) ∧ Hid (wr.ownsRow w.heap.size 3 1 av L.length (L.map (Value.int .i64))) ∧ Hid (Below w.heap.size w wr))
  case atStart => exact ⟨n, K1, K1, [], Nat.le_refl _, rfl, rfl, rfl, Lib.hid (fun _ => ⟨rfl, by omega⟩), Lib.hid (by omega), Lib.hid (by simpa using HT.out.symm), Lib.hid (by simp), Lib.hid (World.ownsRow_nil ..), Lib.hid (Below.refl _ _)⟩
  case round =>
    obtain ⟨e, j, κ, L, he, rfl, rfl, rfl, HK, HB, HL, HN, HO, EE⟩ := hrel
    rename World => w1
    by_cases h0 : 0 < e
    · have h0i : (0 : Int) < (e : Int) := by omega
      obtain ⟨hκ, hj⟩ := HK.out h0
      subst hκ
      have hji : (j : Int) < (K : Int) := by omega
      obtain ⟨b, m, hbm, hme, hb, hm, hjb⟩ := HPA.out j e h0 he
      have hei : (e : Int) < (n : Int) + 1 := by omega
      have ca : w1.cell? ⟨ga, j, none⟩ = some (.slice (some ⟨G j, 0, none⟩) (n + 1) (n + 1)) := (EE.out.cell (p := ⟨ga, j, none⟩) hgal).trans (HCL.out j hj)
      have ba := (HW.out.blk j hj).next EE.out
      obtain ⟨gt, hgt⟩ : ∃ q, G j = q := ⟨_, rfl⟩
      rw [hgt] at ca ba
      have b0 : w1.cell? ⟨gt, e * 3, none⟩ = some (.int .i64 (rwP A j e 0)) := blk_q ba (j := 0) (by omega) (by omega)
      have b1 := blk_q ba (j := 1) (show e < n + 1 by omega) (by omega)
      have b2 := blk_q ba (j := 2) (show e < n + 1 by omega) (by omega)
      obtain ⟨x, hx⟩ : ∃ x, rwP A j e 2 = x := ⟨_, rfl⟩
      have hst := chP_step A h0 hb hm hjb
      rw [hb] at b0; rw [hm] at b1; rw [hx] at b2
      have HL2 : Hid (T = chP A (j - 1) b ++ (L ++ [(m : Int)]).reverse) := Lib.hid (by rw [HL.out, hst, List.reverse_append]; simp)
      have HK2 : Hid (0 < b → (j : Int) - 1 = ((j - 1 : Nat) : Int) ∧ j - 1 < K) := Lib.hid (fun hb => by
        have : j ≠ 0 := fun h => by have := hjb h; omega
        omega)
      have HB2 : Hid (-1 ≤ (j : Int) - 1 ∧ (j : Int) - 1 ≤ 1000) := Lib.hid (by omega)
      have HN2 : Hid ((L ++ [(m : Int)]).length + b ≤ n) := Lib.hid (by have := HN.out; simp; omega)
      have HX := Lib.hid ((Blk.new w1 #[.int .i64 b, .int .i64 m, .int .i64 x] 43).alloc (.cells #[.int .i64 m] 3))
      have HO2 := Lib.hid ((HO.out.alloc (.cells #[.int .i64 b, .int .i64 m, .int .i64 x] 43)).alloc (.cells #[.int .i64 m] 3))
      have E2 : Hid (Below w.heap.size w ((w1.alloc (.cells #[.int .i64 b, .int .i64 m, .int .i64 x] 43)).alloc (.cells #[.int .i64 m] 3))) := Lib.hid ((EE.out.alloc EE.out.size _).alloc (by have := EE.out.size; simp; omega) _)
      have hLn := HN.out
      have hsz := EE.out.size
      have HQ1 : Hid (IntKind.i64.wrap ((j : Int) - 1) = (j : Int) - 1) := Lib.hid (IntWalk.i64_in _ (by omega))
      have HQ2 : Hid (wrap64 ((j : Int) - 1) = (j : Int) - 1) := Lib.hid (IntWalk.wrap64_in _ (by omega))
      clear ba hb hm hx hst hjb hgt HK HB HL HN HO EE
      go_wp2_with (at_builtin; refine wpList_append_own _ rfl _ _ 22 rfl w.heap.size 3 i0 (.int .i64 0) 1 8 Try.underlying22 hi hz0 hz1 hz2 rfl (by decide) _ _ _ rfl HO2.out ⟨_, 0, none⟩ 1 1 [.int .i64 (m : Int)] rfl rfl (newsM_new2 (cs := #[.int .i64 (m : Int)])) (by intro u hu; simp at hu; subst hu; rfl) (by unfold maxLen; omega) (by omega) (by simp; omega) ?_; intro v' w4 hown' hgrow _; have hX4 := blkq_grown HX.out hgrow (own_ne HO2.out HX.out (by decide)); have k0 : w4.cell? ⟨w1.heap.size, 0, none⟩ = some (.int .i64 (b : Int)) := hX4.cell 0; have q1 := HQ1.out; have q2 := HQ2.out)
      clear q1 q2
      have HO4 : Hid (w4.ownsRow w.heap.size 3 1 v' (L ++ [(m : Int)]).length ((L ++ [(m : Int)]).map (Value.int .i64))) := Lib.hid (by
        rw [List.map_append, List.length_append]; exact hown')
      have E4 := Lib.hid (E2.out.grown hgrow (by simp; omega) (fun r hr => (HO2.out.lt r hr).1))
      clear hown' hgrow hX4 HO2 E2 HX
      go_wp2_with fail
      go_roundg b
      case measure => omega
      case rel => exact ⟨b, j - 1, (j : Int) - 1, L ++ [(m : Int)], by omega, rfl, rfl, rfl, HK2, HB2, HL2, HN2, HO4, E4⟩
    · obtain rfl : e = 0 := by omega
      have hTL : T = L.reverse := by rw [HL.out, chP_zero]; rfl
      have hLT : T.reverse = L := by rw [hTL, List.reverse_reverse]
      have hL0 : 0 < L.length := by
        rcases Nat.eq_zero_or_pos L.length with h | h
        · exact absurd (by rw [hTL, List.length_eq_zero_iff.1 h]; rfl) HTN.out
        · exact h
      have hLn := HN.out
      have KR := Lib.hid (rev_own u5 w.heap.size L w1 HO.out hL0 (by omega) (fun x hx => by
        have := HMEM.out x (by rw [hTL]; exact List.mem_reverse.2 hx)
        omega))
      have HTL := Lib.hid hTL
      clear hTL hLT HL HO HK HB
      go_wp2_with fail
      refine KR.out.mono ?_
      rintro e w5 ⟨rfl, ⟨P, c, rfl, hr⟩, hb⟩
      have E5 := Lib.hid (EE.out.trans hb)
      have HR5 := Lib.hid hr
      clear hr hb EE
      go_wp2_with fail
      rw [← HRR.out]
      refine ⟨P, c, ?_, ?_, E5.out⟩
      · have e : T.length = L.length := by rw [HTL.out, List.length_reverse]
        rw [e]; rfl
      · rw [HTL.out]; exact HR5.out
end Go.Proofs.Ytloplambpfjioaa
