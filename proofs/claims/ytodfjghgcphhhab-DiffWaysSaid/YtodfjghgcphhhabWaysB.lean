/- Two ways of a car: do they part behind a tick; the first tick at which they do. -/
import Derived.Test.YtodfjghgcphhhabRows
import Derived.Test.YtodfjghgcphhhabRowKit
import Derived.Test.YtodfjghgcphhhabRowS
import Derived.Test.YtodfjghgcphhhabRowZ
import Derived.Test.YtodfjghgcphhhabRowV
import Derived.Test.YtodfjghgcphhhabRowW
import Derived.Test.YtodfjghgcphhhabSlicesEq
import Derived.Test.YtodfjghgcphhhabBlocks
import Derived.Test.YtodfjghgcphhhabAtKit
import Derived.Test.YtodfjghgcphhhabGanttMath
import Derived.Test.YtodfjghgcphhhabTrackA
import Derived.WalkKit
import Derived.IntWalk
import Derived.Lib.Hide
import Derived.WalkSpells
import Derived.WalkLawsBesides
import Derived.OwnWalk
import Derived.Deep.QuietTactic
import Derived.BigQuiet
import Derived.Deep.RegionHeld3
import Derived.Deep.LoopGhost
import Derived.BigRegion
import Derived.Below
import Derived.Test.YtodfjghgcphhhabRowL
import Derived.Test.YtodfjghgcphhhabRowM
import Derived.Test.YtodfjghgcphhhabMakeI
import Derived.Test.YtodfjghgcphhhabWaysMath
import Derived.Test.YtodfjghgcphhhabWaysA
import Derived.Test.YtodfjghgcphhhabTrackB
import Derived.Test.YtodfjghgcphhhabShelf
import Derived.Laws.CopyOwn
import Derived.Laws.MakeOwn
import Derived.Laws.OwnMore
import Derived.Maps.AppendAt
import Derived.Lib.SlKeysI
import Derived.Sort.OwnSorted
namespace Go.Proofs.Ytodfjghgcphhhab
open Go.RowKit Go.Sort
set_option linter.unusedSimpArgs false
set_option linter.unusedVariables false
theorem srt_len (zs : List Int) : (zs.mergeSort fun x y => decide (x ≤ y)).length = zs.length := List.length_mergeSort zs
theorem srt_up (zs : List Int) : (zs.mergeSort fun x y => decide (x ≤ y)).Pairwise (· ≤ ·) := by
  have := List.pairwise_mergeSort (le := fun x y : Int => decide (x ≤ y)) (fun a b c h1 h2 => by simp at *; omega) (fun a b => by simp; omega) zs
  exact this.imp (fun h => by simpa using h)
/-- a row of numbers that the call made, sorted -/
def SortR (zs : List Int) (base : Nat) (w : World) (v : Value) (e : Ending) (w' : World) : Prop :=
  e = .returned (.tuple #[]) ∧ (∃ A c, v = .slice A zs.length c ∧ RdI w' .i64 A (zs.mergeSort fun x y => decide (x ≤ y))) ∧ Below base w w'
theorem sort_own (v : Value) (base : Nat) (zs : List Int) (w : World) (h : w.ownsRow base 3 1 v zs.length (zs.map encZ)) (h0 : 0 < zs.length) (h1 : zs.length ≤ 1000000) (hbs : base ≤ w.heap.size) (hwf : ∀ x, x ∈ zs → (Lit.int .i64 x).wf = true) :
    Calls Try.prog 26 #[v] w (SortR zs base w v) := by
  have HW : ∀ i, i < (zs.mergeSort fun x y => decide (x ≤ y)).length → (Lit.int .i64 (zat (zs.mergeSort fun x y => decide (x ≤ y)) i)).wf = true := fun i hi => by
    refine hwf _ (List.mem_mergeSort.1 (by unfold zat; rw [List.getD_eq_getElem?_getD, List.getElem?_eq_getElem hi]; exact List.getElem_mem hi))
  rcases h.2 with ⟨rfl, hz⟩ | ⟨g, cap, cur, rfl, hbase, hgb, r1, r2, r3, r4⟩
  · omega
  · have hH : Holds encZ w g 0 zs.toArray := holds_of_block_i hgb (by simpa using r4)
    have hgl : g < w.heap.size := (Array.getElem?_eq_some_iff.1 hgb).1
    refine (Try.slices_Sort_int g 0 cap zs w hH hgl (by omega)).mono ?_
    rintro e w2 ⟨rfl, nn, os, rfl⟩
    have q1 := ownsRow_sorted_i (n := nn) (os := os) (ts := zs.mergeSort fun x y => decide (x ≤ y)) (srt_len zs) hbase hgb r1 r2 r3
    have q2 : (grow (putRow encZ (Sort.ahead w nn) g 0 (zs.mergeSort fun x y => decide (x ≤ y)).toArray) os).ownsRow base 3 1 (.slice (some ⟨g, 0, none⟩) zs.length cap) (zs.mergeSort fun x y => decide (x ≤ y)).length ((zs.mergeSort fun x y => decide (x ≤ y)).map (Value.int .i64)) := by rw [srt_len]; exact q1
    obtain ⟨A, c', e, hR⟩ := ownR_rd q2 HW
    rw [srt_len] at e
    exact ⟨rfl, ⟨A, c', e, hR⟩, (Below.refl base w).grown (grownBy_sorted_i _) hbs (fun j hj => by cases hj; exact hbase)⟩
theorem rdL_far {w w' : World} {A : Option Addr} {n : Nat} {T P D : Nat → Int} {O : Nat → Bool} {row : Option Nat} (h : RdL w A n T P D O) (hg : w.grownBy w' row) (hne : ∀ a, A = some a → row ≠ some a.block) : RdL w' A n T P D O := by
  intro i hi
  obtain ⟨a, e, hlt, hc⟩ := h i hi
  have hs : ∀ k, w'.cell? (a.add k) = w.cell? (a.add k) := fun k => hg.cell_far _ (by rw [block_add]; exact hlt) (fun e' => hne a e (by rw [block_add] at e'; exact e'.symm) |>.elim)
  exact ⟨a, e, Nat.lt_of_lt_of_le hlt hg.size, fun j hj => ⟨(hs _).trans (hc j hj).1, (hc j hj).2⟩⟩
set_option maxRecDepth 100000 in
set_option maxHeartbeats 8000000 in
theorem apart_any (A B : Option Addr) (c d n m : Nat) (T P D : Nat → Int) (O : Nat → Bool) (T' P' D' : Nat → Int) (O' : Nat → Bool) (t : Int) (w : World) (ha : RdL w A n T P D O) (hb : RdL w B m T' P' D' O') (fa : FineL T P D n) (fb : FineL T' P' D' m) (t1 : -1073741826 ≤ t) (t2 : t ≤ 1073741826) :
    Calls Try.prog 27 #[.slice A n c, .slice B m d, .int .i64 t] w fun e w' => e = .returned (.bool (apW T P D O n T' P' D' O' m t)) ∧ Below w.heap.size w w' := by
  have HB := Lib.hid hb
  have K1 := Lib.hid (at_any A c n T P D O t w ha fa t1 t2)
  have K2 := Lib.hid (fun W hr => at_any B d m T' P' D' O' t W hr fb t1 t2)
  obtain ⟨R, hR⟩ : ∃ R, apW T P D O n T' P' D' O' m t = R := ⟨_, rfl⟩
  rw [hR]
  unfold apW at hR
  obtain ⟨p1, h1⟩ : ∃ q, posL T P D t (lastL T t n) = q := ⟨_, rfl⟩
  obtain ⟨d1, h2⟩ : ∃ q, dorL O (lastL T t n) = q := ⟨_, rfl⟩
  obtain ⟨i1, h3⟩ : ∃ q, decide (0 < lastL T t n) = q := ⟨_, rfl⟩
  obtain ⟨p2, h4⟩ : ∃ q, posL T' P' D' t (lastL T' t m) = q := ⟨_, rfl⟩
  obtain ⟨d2, h5⟩ : ∃ q, dorL O' (lastL T' t m) = q := ⟨_, rfl⟩
  obtain ⟨i2, h6⟩ : ∃ q, decide (0 < lastL T' t m) = q := ⟨_, rfl⟩
  rw [h1, h2, h3, h4, h5, h6] at hR
  rw [h1, h2, h3] at K1
  rw [h4, h5, h6] at K2
  clear ha hb fa fb t1 t2 h1 h2 h3 h4 h5 h6
  by_cases hp : p1 = p2
  · subst hp
    have hR2 : ((d1 != d2) || (i1 != i2)) = R := by rw [← hR]; simp
    clear hR
    cases d1 <;> cases d2 <;> cases i1 <;> cases i2 <;> (
      simp at hR2
      subst hR2
      go_enter Try.func27, Try.ntmps27
      go_wp2_with fail
      refine K1.out.mono ?_
      rintro e v1 ⟨rfl, hb1⟩
      have E1 := Lib.hid hb1
      have HB1 := Lib.hid (HB.out.kept hb1)
      clear hb1
      go_wp2_with fail
      refine (K2.out _ HB1.out).mono ?_
      rintro e v2 ⟨rfl, hb2⟩
      have E2 := Lib.hid (E1.out.trans (hb2.mono E1.out.size))
      clear hb2
      go_wp2_with fail
      go_ret
      exact ⟨rfl, E2.out⟩)
  · have e1 : (p1 != p2) = true := by simpa using hp
    have e2 : (p1 == p2) = false := by simpa using hp
    obtain rfl : R = true := by rw [← hR, e1]; rfl
    clear hR hp
    go_enter Try.func27, Try.ntmps27
    go_wp2_with fail
    refine K1.out.mono ?_
    rintro e v1 ⟨rfl, hb1⟩
    have E1 := Lib.hid hb1
    have HB1 := Lib.hid (HB.out.kept hb1)
    clear hb1
    go_wp2_with fail
    refine (K2.out _ HB1.out).mono ?_
    rintro e v2 ⟨rfl, hb2⟩
    have E2 := Lib.hid (E1.out.trans (hb2.mono E1.out.size))
    clear hb2
    go_wp2_with fail
    go_ret
    exact ⟨rfl, E2.out⟩
/-- where two ways part ahead of a horizon -/
def WaysR (f : Int → Bool) (h : Int) (w : World) (e : Ending) (w' : World) : Prop := ∃ a p, e = .returned (.tuple #[.int .i64 a, .bool p]) ∧ FirstW f h a p ∧ Below w.heap.size w w'
theorem tick_two (T : Nat → Int) (k : Nat) (a b : Int) (ha : T k = a) (hb : a + 1 = b) : (tickL T k).map (Value.int .i64) ++ [.int .i64 a, .int .i64 b] = (tickL T (k + 1)).map (Value.int .i64) := by
  rw [tickL_succ, List.map_append, ha, hb]; rfl
set_option maxRecDepth 100000 in
set_option maxHeartbeats 8000000 in
theorem ways_any (A B : Option Addr) (c d n m : Nat) (T P D : Nat → Int) (O : Nat → Bool) (T' P' D' : Nat → Int) (O' : Nat → Bool) (h : Int) (w : World) (ha : RdL w A n T P D O) (hb : RdL w B m T' P' D' O') (fa : FineL T P D n) (fb : FineL T' P' D' m) (hh : h ≤ 300) (a1 : n ≤ c) (a2 : A = none → c = 0) (b1 : m ≤ d) (b2 : B = none → d = 0) :
    Calls Try.prog 9 #[.slice A n c, .slice B m d, .int .i64 h] w (WaysR (apW T P D O n T' P' D' O' m) h w) := by
  obtain ⟨i0, hi, hz0, hz1, hz2⟩ := info_parts mkInfo
  have HA := Lib.hid ha; have HB := Lib.hid hb
  have hn := fa.1; have hm := fb.1
  have KA := Lib.hid (fun t W ha hb t1 t2 => apart_any A B c d n m T P D O T' P' D' O' t W ha hb fa fb t1 t2)
  have KC := Lib.hid (fun g W ha hb hX => concat_any A B c d n m T P D O T' P' D' O' g W ha hb hn hm a1 a2 b1 b2 hX)
  have HC : Hid (∀ t, 0 ≤ t → apW T P D O n T' P' D' O' m t = true → ∃ q, 0 ≤ q ∧ q ≤ t ∧ candW T n T' m q ∧ apW T P D O n T' P' D' O' m q = true) := Lib.hid fun t t0 ht => ap_cand t.toNat t t0 (by omega) ht
  have HM : Hid (∀ t, candW T n T' m t → t ∈ tickL (catI T T' n) (n + m)) := Lib.hid fun t => cand_mem
  have HTB : Hid (∀ i, i < n + m → -1073741824 ≤ catI T T' n i ∧ catI T T' n i ≤ 1073741824) := Lib.hid fun i hi => by
    unfold catI
    by_cases q : i < n
    · rw [if_pos q]; exact (fa.2.2 i q).2.2.2.2
    · rw [if_neg q]; exact (fb.2.2 (i - n) (by omega)).2.2.2.2
  obtain ⟨f, hf⟩ : ∃ f, apW T P D O n T' P' D' O' m = f := ⟨_, rfl⟩
  rw [hf] at KA HC ⊢
  obtain ⟨TT, hTT⟩ : ∃ q, catI T T' n = q := ⟨_, rfl⟩
  obtain ⟨PP, hPP⟩ : ∃ q, catI P P' n = q := ⟨_, rfl⟩
  obtain ⟨DD, hDD⟩ : ∃ q, catI D D' n = q := ⟨_, rfl⟩
  obtain ⟨OO, hOO⟩ : ∃ q, catB O O' n = q := ⟨_, rfl⟩
  rw [hTT, hPP, hDD, hOO] at KC
  rw [hTT] at HM HTB
  obtain ⟨N, hN⟩ : ∃ N, n + m = N := ⟨_, rfl⟩
  have hN2 : N ≤ 120 := by omega
  have HNN := Lib.hid hN
  rw [hN] at HM HTB
  obtain ⟨RES, hRES⟩ : ∃ Q, WaysR f h w = Q := ⟨_, rfl⟩
  have HRES : Hid (∀ a p W', FirstW f h a p → Below w.heap.size w W' → RES (.returned (.tuple #[.int .i64 a, .bool p])) W') := Lib.hid fun a p W' h1 h2 => by rw [← hRES]; exact ⟨a, p, rfl, h1, h2⟩
  rw [hRES]
  have hTL := tickL_len TT N
  have HTI : Hid (∀ t, t ∈ tickL TT N → -1073741824 ≤ t ∧ t ≤ 1073741825) := Lib.hid (tickL_in TT 1073741824 (by omega) N HTB.out)
  clear ha hb fa fb hf hTT hPP hDD hOO hN hRES a1 a2 b1 b2
  go_enter Try.func9, Try.ntmps9
  go_wp2_with fail
  have BI := (Blk.new w #[.int .i64 0, .int .i64 1] 3).alloc (.cells #[.slice A n c, .slice B m d] 22)
  have BX := Blk.new (w.alloc (.cells #[.int .i64 0, .int .i64 1] 3)) #[.slice A n c, .slice B m d] 22
  rw [World.size_alloc] at BX
  have BE : Below w.heap.size w ((w.alloc (.cells #[.int .i64 0, .int .i64 1] 3)).alloc (.cells #[.slice A n c, .slice B m d] 22)) := ((Below.refl w.heap.size w).alloc (Nat.le_refl _) _).alloc (by simp <;> omega) _
  obtain ⟨V0, hV0⟩ : ∃ V, ((w.alloc (.cells #[.int .i64 0, .int .i64 1] 3)).alloc (.cells #[.slice A n c, .slice B m d] 22)) = V := ⟨_, rfl⟩
  rw [hV0] at BI BX BE ⊢
  have HI := Lib.hid BI
  have HX := Lib.hid BX
  have EE := Lib.hid BE
  have ne0_1 : w.heap.size ≠ w.heap.size + 1 := by omega
  have ne1_0 : w.heap.size + 1 ≠ w.heap.size := by omega
  clear hV0 BE BI BX
  have kI0 : V0.cell? ⟨w.heap.size, 0, none⟩ = some (.int .i64 0) := HI.out.cell 0
  have kI1 : V0.cell? ⟨w.heap.size, 1, none⟩ = some (.int .i64 1) := HI.out.cell 1
  have kX0 : V0.cell? ⟨w.heap.size + 1, 0, none⟩ = some (.slice A n c) := HX.out.cell 0
  have kX1 : V0.cell? ⟨w.heap.size + 1, 1, none⟩ = some (.slice B m d) := HX.out.cell 1
  have OW : V0.ownsRow w.heap.size 3 1 (.slice (some ⟨w.heap.size, 0, none⟩) 2 2) 2 ((tickL TT 0).map (Value.int .i64)) := ⟨rfl, Or.inr ⟨w.heap.size, 2, _, rfl, Nat.le_refl _, HI.out, Nat.le_refl _, by simp [maxLen], rfl, rfl⟩⟩
  have HOW := Lib.hid OW; clear OW
  have l0s : w.heap.size + 2 ≤ V0.heap.size := by have := HX.out.lt; omega
  refine (KC.out (w.heap.size + 1) _ (HA.out.kept EE.out) (HB.out.kept EE.out) HX.out).mono ?_
  rintro e v1 ⟨A', c', rfl, hr, hk, hb⟩
  have HOW := Lib.hid (mkOwn_below HOW.out hb)
  have HL := Lib.hid hr; clear hr
  clear kI0 kI1 kX0 kX1
  have HI := Lib.hid (Blk.next (w := V0) HI.out hb)
  have HX := Lib.hid (Blk.next (w := V0) HX.out hb)
  have EE := Lib.hid (EE.out.trans (hb.mono EE.out.size))
  clear hb
  have kI0 : v1.cell? ⟨w.heap.size, 0, none⟩ = some (.int .i64 0) := HI.out.cell 0
  have kI1 : v1.cell? ⟨w.heap.size, 1, none⟩ = some (.int .i64 1) := HI.out.cell 1
  have kX0 : v1.cell? ⟨w.heap.size + 1, 0, none⟩ = some (.slice A n c) := HX.out.cell 0
  have kX1 : v1.cell? ⟨w.heap.size + 1, 1, none⟩ = some (.slice B m d) := HX.out.cell 1
  clear kI0 kI1 kX0 kX1
  rw [HNN.out] at HL
  have HK : Hid (∀ a, A' = some a → w.heap.size + 1 ≤ a.block) := Lib.hid fun a e => by have := hk a e; omega
  clear hk
  rw [HNN.out]
  go_wp2_with fail
  go_loopw [8, 19] (fun v i wr => ∃ k : Nat, k ≤ N ∧ i = .int .i64 k ∧ wr.ownsRow w.heap.size 3 1 v (2 * k + 2) ((tickL TT k).map (Value.int .i64)) ∧ RdL wr A' N TT PP DD OO ∧ (∀ a, A' = some a → v.ownBlock ≠ some a.block) ∧ Below w.heap.size w wr) (fun _ i _ => N - (intOf i).toNat)
  case atStart => exact ⟨0, by omega, rfl, HOW.out, HL.out, fun a e => by have := HK.out a e; simp [Value.ownBlock]; omega, EE.out⟩
  case round =>
    obtain ⟨k, hk, rfl, hown, hL, hsep, hB⟩ := hrel
    have HO := Lib.hid hown; have HL := Lib.hid hL; have HSP := Lib.hid hsep; have EE := Lib.hid hB
    clear hown hL hsep hB
    by_cases h1 : k < N
    · obtain ⟨g, cap, rfl, hg, hcp⟩ := ownR_head HO.out (by omega)
      obtain ⟨b, o, rfl, hbl, hcell⟩ := rdL_row HL.out (by omega)
      obtain ⟨c0, c1, c2, c3⟩ := hcell k h1
      have hb := HTB.out k h1
      obtain ⟨tk, htk⟩ : ∃ q, TT k = q := ⟨_, rfl⟩
      obtain ⟨pk, hpk⟩ : ∃ q, PP k = q := ⟨_, rfl⟩
      obtain ⟨dk, hdk⟩ : ∃ q, DD k = q := ⟨_, rfl⟩
      obtain ⟨ok, hok⟩ : ∃ q, OO k = q := ⟨_, rfl⟩
      rw [htk] at c0 hb
      rw [hpk] at c1
      rw [hdk] at c2
      rw [hok] at c3
      have HTK := Lib.hid htk
      have w1 : IntKind.i64.wrap (tk + 1) = tk + 1 := IntWalk.i64_in _ (by omega)
      clear hcell htk hpk hdk hok
      have hsz := EE.out.size
      go_wp2_with (go_loud (at_builtin; refine wpList_append_own_at _ rfl _ _ 40 rfl w.heap.size 3 i0 (.int .i64 0) 1 8 Try.underlying40 hi hz0 hz1 hz2 rfl (by decide) _ _ _ rfl ((HO.out.alloc _).alloc _) ⟨_, 0, none⟩ 2 2 [.int .i64 tk, .int .i64 (tk + 1)] rfl rfl (newsM_new2 (cs := #[.int .i64 tk, .int .i64 (tk + 1)])) (by intro u hu; simp at hu; rcases hu with rfl | rfl <;> rfl) (by unfold maxLen; omega) (by omega) (by simp; omega) ?_; intro v' w4 hown' hgrow _ hat))
      have EB := (EE.out.alloc EE.out.size (.cells #[.int .i64 tk, .int .i64 pk, .int .i64 dk, .bool ok] 62))
      have E4 : Go.RowKit.Below w.heap.size w w4 := by
        refine (EB.alloc (by have := EE.out.size; simp; omega) _).grown hgrow (by have := EE.out.size; simp; omega) (fun q hq => ?_)
        first | exact ownR_ge HO.out hq | exact ownR_ge HO.out hq.symm
      have hlt : b < wr.heap.size := hbl
      have L4 : RdL w4 (some ⟨b, o, none⟩) N TT PP DD OO := by
        have e1 := HL.out.kept ((Below.refl wr.heap.size wr).alloc (Nat.le_refl _) (.cells #[.int .i64 tk, .int .i64 pk, .int .i64 dk, .bool ok] 62))
        have e2 := e1.kept ((Below.refl _ _).alloc (Nat.le_refl _) (.cells #[.int .i64 tk, .int .i64 (tk + 1)] 3))
        exact rdL_far e2 hgrow (fun a e => by cases e; exact HSP.out _ rfl)
      have S4 : ∀ a, some (⟨b, o, none⟩ : Addr) = some a → v'.ownBlock ≠ some a.block := fun a e => by
        cases e
        rcases hat with e' | e'
        · rw [e']; exact HSP.out _ rfl
        · rw [e']; simp; omega
      have O4 : w4.ownsRow w.heap.size 3 1 v' (2 * (k + 1) + 2) ((tickL TT (k + 1)).map (Value.int .i64)) := by
        rw [← tick_two TT k tk (tk + 1) HTK.out rfl]
        exact hown'
      clear hown' hgrow hat EB
      have HQ := Lib.hid O4; have HQ2 := Lib.hid L4; have HQ3 := Lib.hid S4; have HQ4 := Lib.hid E4
      clear O4 L4 S4 E4
      go_wp2_with fail
      go_roundw
      case rel => exact ⟨k + 1, by omega, by go_num, HQ.out, HQ2.out, HQ3.out, HQ4.out⟩
      case measure => simp [intOf]; omega
    · obtain rfl : N = k := by omega
      have hown2 := HO.out
      rw [← hTL] at hown2
      have KS := sort_own _ w.heap.size (tickL TT N) wr hown2 (by omega) (by omega) EE.out.size (fun t ht => by
        have := HTI.out t ht
        have e1 : IntKind.i64.min = -9223372036854775808 := by decide
        have e2 : IntKind.i64.max = 9223372036854775807 := by decide
        show (decide (IntKind.i64.min ≤ t) && decide (t ≤ IntKind.i64.max)) = true
        rw [e1, e2]
        simp; omega)
      have HKS := Lib.hid KS
      clear hown2 KS
      go_wp2_with fail
      refine HKS.out.mono ?_
      rintro e w5 ⟨rfl, ⟨A5, c5, rfl, hr5⟩, hb5⟩
      have E5 := Lib.hid (EE.out.trans hb5)
      have hlen : (tickL TT N).length = 2 * N + 2 := hTL
      obtain ⟨S, hS⟩ : ∃ S, ((tickL TT N).mergeSort fun x y => decide (x ≤ y)) = S := ⟨_, rfl⟩
      have hSl : S.length = 2 * N + 2 := by rw [← hS, srt_len, hTL]
      have HSU : Hid (S.Pairwise (· ≤ ·)) := Lib.hid (by rw [← hS]; exact srt_up _)
      have HSM : Hid (∀ t, candW T n T' m t → t ∈ S) := Lib.hid fun t ht => by rw [← hS]; exact List.mem_mergeSort.2 (HM.out t ht)
      have HSB : Hid (∀ t, t ∈ S → -1073741824 ≤ t ∧ t ≤ 1073741825) := Lib.hid fun t ht => by rw [← hS] at ht; exact HTI.out t (List.mem_mergeSort.1 ht)
      rw [hS] at hr5
      have HR5 := Lib.hid hr5
      rw [hlen]
      clear hr5 hb5 hS hlen
      go_wp2_with fail
      go_loopw [36] (fun i wr => ∃ k : Nat, k ≤ 2 * N + 2 ∧ i = .int .i64 k ∧ Hid (∀ (j : Nat) b, j < k → S[j]? = some b → ¬ (0 ≤ b ∧ b < h ∧ f b = true)) ∧ RdI wr .i64 A5 S ∧ Below w.heap.size w wr) (fun i _ => 2 * N + 2 - (intOf i).toNat)
      case atStart => exact ⟨0, by omega, rfl, Lib.hid fun j b hj => absurd hj (by omega), HR5.out, E5.out⟩
      case round =>
        obtain ⟨k, hk, rfl, HNO, hr6, hB6⟩ := hrel
        have HR6 := Lib.hid hr6; have EE := Lib.hid hB6
        clear hr6 hB6
        by_cases h2 : k < 2 * N + 2
        · obtain ⟨ad, rfl, hadl, hc, _⟩ := HR6.out k (by rw [hSl]; exact h2)
          obtain ⟨t, ht⟩ : ∃ t, zat S k = t := ⟨_, rfl⟩
          have hg : S[k]? = some t := by rw [← ht]; unfold zat; rw [List.getD_eq_getElem?_getD, List.getElem?_eq_getElem (by rw [hSl]; exact h2)]; rfl
          have hbd := HSB.out t (List.mem_of_getElem? hg)
          rw [ht] at hc
          have HG := Lib.hid hg
          clear ht hg
          have HNX : Hid (¬ (0 ≤ t ∧ t < h ∧ f t = true) → ∀ (j : Nat) b, j < k + 1 → S[j]? = some b → ¬ (0 ≤ b ∧ b < h ∧ f b = true)) := Lib.hid fun hno j b hj hjb => by
            by_cases e : j < k
            · exact HNO.out j b e hjb
            · obtain rfl : j = k := by omega
              rw [HG.out] at hjb
              cases hjb
              exact hno
          by_cases h3 : 0 ≤ t
          · by_cases h4 : t < h
            · have d3 : decide (0 ≤ t) = true := decide_eq_true h3
              have d4 : decide (t < h) = true := decide_eq_true h4
              have K6 := Lib.hid (KA.out t wr (HA.out.kept EE.out) (HB.out.kept EE.out) (by omega) (by omega))
              obtain ⟨ft, hft⟩ : ∃ q, f t = q := ⟨_, rfl⟩
              rw [hft] at K6 HNX
              have HFT := Lib.hid hft
              clear hft
              go_wp2_with fail
              refine K6.out.mono ?_
              rintro e w7 ⟨rfl, hb7⟩
              have E7 := Lib.hid (EE.out.trans (hb7.mono EE.out.size))
              have R7 := Lib.hid (HR6.out.kept hb7)
              clear hb7 hc
              cases ft
              · have NX := Lib.hid (HNX.out (by simp))
                go_wp2_with fail
                go_roundw
                case rel => exact ⟨k + 1, by omega, by go_num, NX, R7.out, E7.out⟩
                case measure => simp [intOf]; omega
              · have FW := Lib.hid (first_cand HC.out HSM.out HSU.out HG.out ⟨h3, h4, HFT.out⟩ HNO.out)
                go_wp2_with fail
                first | exact HRES.out _ _ _ FW.out E7.out | (go_ret2; exact HRES.out _ _ _ FW.out E7.out)
            · have d3 : decide (0 ≤ t) = true := decide_eq_true h3
              have d4 : decide (t < h) = false := decide_eq_false h4
              have NX := Lib.hid (HNX.out (fun q => h4 q.2.1))
              go_wp2_with fail
              go_roundw
              case rel => exact ⟨k + 1, by omega, by go_num, NX, HR6.out, EE.out⟩
              case measure => simp [intOf]; omega
          · have d3 : decide (0 ≤ t) = false := decide_eq_false h3
            have NX := Lib.hid (HNX.out (fun q => h3 q.1))
            go_wp2_with fail
            go_roundw
            case rel => exact ⟨k + 1, by omega, by go_num, NX, HR6.out, EE.out⟩
            case measure => simp [intOf]; omega
        · have FW := Lib.hid (first_none (h := h) HC.out HSM.out (fun j b hj => HNO.out j b (by
            have : j < S.length := by
              rcases Nat.lt_or_ge j S.length with q | q
              · exact q
              · rw [List.getElem?_eq_none q] at hj; cases hj
            omega) hj))
          go_wp2_with fail
          first | exact HRES.out _ _ _ FW.out EE.out | (go_ret2; exact HRES.out _ _ _ FW.out EE.out)
end Go.Proofs.Ytodfjghgcphhhab
