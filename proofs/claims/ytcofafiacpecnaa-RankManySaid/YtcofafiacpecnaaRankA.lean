/- Contracts of rank.Place, Below, Many, Of, Ends and of the law's own below. -/
import Derived.Test.YtcofafiacpecnaaRows
import Derived.Test.YtcofafiacpecnaaRowKit
import Derived.Test.YtcofafiacpecnaaSlicesEq
import Derived.Test.YtcofafiacpecnaaSlicesEqM
import Derived.Test.YtcofafiacpecnaaRowL
import Derived.Test.YtcofafiacpecnaaMakeI
import Derived.Test.YtcofafiacpecnaaShelf
import Derived.Test.YtcofafiacpecnaaSeqA
import Derived.Test.YtcofafiacpecnaaSeqB
import Derived.Test.YtcofafiacpecnaaRankMath
import Derived.WalkKit
import Derived.IntWalk
import Derived.Lib.Hide
import Derived.WalkSpells
import Derived.WalkLawsBesides
import Derived.Laws.CopyOwn
import Derived.Laws.MakeOwn
import Derived.Laws.OwnMore
import Derived.OwnWalk
import Derived.Deep.QuietTactic
import Derived.Deep.LoopGhost
import Derived.BigQuiet
import Derived.Below
namespace Go.Proofs.Ytcofafiacpecnaa
open Go.RowKit
set_option linter.unusedSimpArgs false
set_option linter.unusedVariables false
theorem rkret {k : IntKind} {a b : Int} (h : a = b) : Ending.returned (.int k a) = .returned (.int k b) := by rw [h]
theorem rkint {k : IntKind} {a b : Int} (h : a = b) : Value.int k a = .int k b := by rw [h]
theorem rkret2 {k l : IntKind} {a b c d : Int} (h : a = c) (h' : b = d) : Ending.returned (.tuple #[.int k a, .int l b]) = .returned (.tuple #[.int k c, .int l d]) := by rw [h, h']
set_option maxHeartbeats 400000 in
theorem rplace_ok (p m A B q : Int) (w : World) (p1 : 1 ≤ p) (p2 : p ≤ 100) (m1 : 1 ≤ m) (m2 : m ≤ 9223372036854775807) (R : PlR p m A B q) :
    Calls Try.prog 55 #[.int .i64 p, .int .i64 m] w fun e w' => e = .returned (.tuple #[.int .i64 (A + q), .int .i64 0]) ∧ w = w' := by
  obtain ⟨a, b, hq, a0, b0, b1, k0, k1, am, s⟩ := R
  have w1 : IntKind.i64.wrap (m / 100 * p) = A := by rw [a]; exact IntWalk.i64_in _ (by omega)
  have w2 : IntKind.i64.wrap (m % 100 * p) = B := by rw [b]; exact IntWalk.i64_in _ (by omega)
  have q0 : 0 ≤ q := by omega
  have q1 : q ≤ 100 := by omega
  have HQ := Lib.hid hq
  clear a b s hq
  go_enter Try.func55, Try.ntmps55
  go_wp2_with fail
  go_ret2
  exact ⟨rkret2 (by rw [HQ.out]; unfold wrap64; omega) rfl, rfl⟩
set_option maxHeartbeats 400000 in
theorem rplace_no (p m : Int) (w : World) (h : p < 1 ∨ 100 < p ∨ m < 1) :
    Calls Try.prog 55 #[.int .i64 p, .int .i64 m] w fun e w' => e = .returned (.tuple #[.int .i64 0, .int .i64 22]) ∧ w = w' := by
  by_cases h1 : p < 1
  · clear h
    go_enter Try.func55, Try.ntmps55
    go_wp2_with fail
    go_ret2
    exact ⟨rfl, rfl⟩
  · by_cases h2 : 100 < p
    · clear h
      go_enter Try.func55, Try.ntmps55
      go_wp2_with fail
      go_ret2
      exact ⟨rfl, rfl⟩
    · have h3 : m < 1 := by omega
      clear h
      go_enter Try.func55, Try.ntmps55
      go_wp2_with fail
      go_ret2
      exact ⟨rfl, rfl⟩
set_option maxHeartbeats 1000000 in
theorem rbelow_any (y : Int) (A : Option Addr) (c n : Nat) (zs : List Int) (w : World) (hn : zs.length = n) (hr : RdI w .i64 A zs) (hl : n ≤ 1000000) :
    Calls Try.prog 58 #[.int .i64 y, .slice A n c] w fun e w' => e = .returned (.int .i64 (blN zs y n : Nat)) ∧ w = w' := by
  have HN := Lib.hid hn
  clear hn
  go_enter Try.func58, Try.ntmps58
  go_wp2_with fail
  go_loop [5, 10] (fun x i => ∃ k : Nat, k ≤ n ∧ i = .int .i64 k ∧ x = .int .i64 (blN zs y k : Nat)) (fun _ i => n - (intOf i).toNat)
  case atStart => exact ⟨0, by omega, rfl, rfl⟩
  case round =>
    obtain ⟨k, hk, rfl, rfl⟩ := hrel
    have ble := bl_le zs y k
    by_cases h : k < n
    · obtain ⟨b, off, rfl, hlt, hc⟩ := rdI_row hr (by have := HN.out; omega)
      have ck := hc k (by have := HN.out; omega)
      obtain ⟨u, hu⟩ : ∃ u, zat zs k = u := ⟨_, rfl⟩
      obtain ⟨x, hx⟩ : ∃ x, blN zs y k = x := ⟨_, rfl⟩
      rw [hu] at ck
      rw [hx] at ble ⊢
      by_cases d : u ≤ y
      · have E := Lib.hid (show blN zs y (k + 1) = x + 1 by rw [bl_yes (by rw [hu]; exact d), hx])
        clear hu hx hc
        go_wp2_with fail
        go_round
        case rel => exact ⟨k + 1, by omega, by go_num, rkint (by rw [E.out]; omega)⟩
        case measure => simp [intOf]; omega
      · have E := Lib.hid (show blN zs y (k + 1) = x by rw [bl_no (by rw [hu]; exact d), hx])
        clear hu hx hc
        go_wp2_with fail
        go_round
        case rel => exact ⟨k + 1, by omega, by go_num, rkint (by rw [E.out])⟩
        case measure => simp [intOf]; omega
    · obtain rfl : k = n := by omega
      go_wp2_with fail
      go_ret
      exact ⟨rfl, rfl⟩
set_option maxHeartbeats 1000000 in
theorem lbelow_any (y : Int) (A : Option Addr) (c n : Nat) (zs : List Int) (w : World) (hn : zs.length = n) (hr : RdI w .i64 A zs) (hl : n ≤ 1000000) :
    Calls Try.prog 59 #[.int .i64 y, .slice A n c] w fun e w' => e = .returned (.int .i64 (blN zs y n : Nat)) ∧ w = w' := by
  have HN := Lib.hid hn
  clear hn
  go_enter Try.func59, Try.ntmps59
  go_wp2_with fail
  go_loop [5, 6] (fun x i => ∃ k : Nat, k ≤ n ∧ i = .int .i64 k ∧ x = .int .i64 (blN zs y k : Nat)) (fun _ i => n - (intOf i).toNat)
  case atStart => exact ⟨0, by omega, rfl, rfl⟩
  case round =>
    obtain ⟨k, hk, rfl, rfl⟩ := hrel
    have ble := bl_le zs y k
    by_cases h : k < n
    · obtain ⟨b, off, rfl, hlt, hc⟩ := rdI_row hr (by have := HN.out; omega)
      have ck := hc k (by have := HN.out; omega)
      obtain ⟨u, hu⟩ : ∃ u, zat zs k = u := ⟨_, rfl⟩
      obtain ⟨x, hx⟩ : ∃ x, blN zs y k = x := ⟨_, rfl⟩
      rw [hu] at ck
      rw [hx] at ble ⊢
      by_cases d : u ≤ y
      · have E := Lib.hid (show blN zs y (k + 1) = x + 1 by rw [bl_yes (by rw [hu]; exact d), hx])
        clear hu hx hc
        go_wp2_with fail
        go_round
        case rel => exact ⟨k + 1, by omega, by go_num, rkint (by rw [E.out]; omega)⟩
        case measure => simp [intOf]; omega
      · have E := Lib.hid (show blN zs y (k + 1) = x by rw [bl_no (by rw [hu]; exact d), hx])
        clear hu hx hc
        go_wp2_with fail
        go_round
        case rel => exact ⟨k + 1, by omega, by go_num, rkint (by rw [E.out])⟩
        case measure => simp [intOf]; omega
    · obtain rfl : k = n := by omega
      go_wp2_with fail
      go_ret
      exact ⟨rfl, rfl⟩
/-- the place of a percentile of so many -/
def plI (p m : Int) : Int := m / 100 * p + (m % 100 * p + 99) / 100
def pctS (zs : List Int) (ps : List Int) (i : Nat) : Int := zat (srt zs) ((plI (zat ps i) zs.length).toNat - 1)
theorem rdI_wf {w : World} {A : Option Addr} {zs : List Int} (h : RdI w .i64 A zs) : ∀ i, i < zs.length → (Lit.int .i64 (zat zs i)).wf = true := fun i hi => by
  obtain ⟨_, _, _, _, hw⟩ := h i hi; exact hw
def RkRow (zs ps : List Int) (k : Nat) (v : Value) (w wr : World) : Prop := wr.ownsRow w.heap.size 3 1 v k ((rowL (pctS zs ps) k).map (Value.int .i64)) ∧ Below w.heap.size w wr
theorem rplace_t (p : Int) (n t : Nat) (w : World) (p1 : 1 ≤ p) (p2 : p ≤ 100) (n1 : 1 ≤ n) (n2 : n ≤ 1000000) (ht : (plI p n).toNat - 1 = t) :
    t < n ∧ Calls Try.prog 55 #[.int .i64 p, .int .i64 n] w fun e w' => e = .returned (.tuple #[.int .i64 ((t : Int) + 1), .int .i64 0]) ∧ w = w' := by
  have R := pl_of p1 p2 (show (1 : Int) ≤ (n : Int) by omega)
  have k0 : 1 ≤ plI p n := R.k0
  have k1 : plI p n ≤ n := R.k1
  have K := rplace_ok p n _ _ _ w p1 p2 (by omega) (by omega) R
  have e : (n : Int) / 100 * p + ((n : Int) % 100 * p + 99) / 100 = (t : Int) + 1 := by show plI p n = _; omega
  rw [e] at K
  exact ⟨by omega, K⟩
set_option maxHeartbeats 400000 in
theorem values_call (A : Option Addr) (n c : Nat) (w : World) :
    Calls Try.prog 95 #[.slice A n c] w fun e w' => e = .returned (.func (.func 114) #[] #[.pointer (some ⟨w.heap.size, 0, none⟩)]) ∧ w' = w.alloc (.cells #[.slice A n c] 23) := by
  go_enter Try.func95, Try.ntmps95
  go_wp2_with fail
  go_ret
  exact ⟨rfl, rfl⟩
theorem sorted_at (A : Option Addr) (c : Nat) (zs : List Int) (w : World) (hr : RdI w .i64 A zs) (hl : zs.length ≤ 1000000) :
    Calls Try.prog 94 #[.func (.func 114) #[] #[.pointer (some ⟨w.heap.size, 0, none⟩)]] (w.alloc (.cells #[.slice A zs.length c] 23)) (SortedR zs (w.alloc (.cells #[.slice A zs.length c] 23))) := by
  have hm : (w.alloc (.cells #[.slice A zs.length c] 23)).cell? ⟨w.heap.size, 0, none⟩ = some (.slice A zs.length c) := by rw [World.cell?_alloc_mark]; rfl
  by_cases h : 0 < zs.length
  · obtain ⟨b, off, e, hlt, hc⟩ := rdI_row (hr.kept (Joins.below_alloc1 w (.cells #[.slice A zs.length c] 23))) h
    exact sorted_vals A w.heap.size b off zs.length c zs _ hm (fun _ => e) hc rfl hl (rdI_wf hr)
  · exact sorted_vals A w.heap.size 0 0 zs.length c zs _ hm (fun h' => absurd h' h) (fun i hi => absurd hi (by omega)) rfl hl (rdI_wf hr)
theorem rkrow_push {zs ps : List Int} {k : Nat} {w wr : World} {v : Value} {x : Int} (hx : x = pctS zs ps k) (h : wr.ownsRow w.heap.size 3 1 v (k + 1) ((rowL (pctS zs ps) k).map (Value.int .i64) ++ [.int .i64 x])) (hb : Below w.heap.size w wr) : RkRow zs ps (k + 1) v w wr := by
  refine ⟨?_, hb⟩
  rw [rowL_succ, List.map_append]
  rw [hx] at h
  exact h
/-- what is looked at in a round -/
structure RkIn (w wr : World) (P Z : Option Addr) (ps ss : List Int) : Prop where
  p : RdI wr .i64 P ps
  s : RdI wr .i64 Z ss
theorem RkIn.next {w wr X : World} {P Z : Option Addr} {ps ss : List Int} (h : RkIn w wr P Z ps ss) (hb : Below wr.heap.size wr X) : RkIn w X P Z ps ss := ⟨h.p.kept hb, h.s.kept hb⟩
set_option maxRecDepth 100000 in
set_option maxHeartbeats 4000000 in
theorem rmany_ok (P A : Option Addr) (d c m n : Nat) (ps zs : List Int) (w : World) (hm : ps.length = m) (hn : zs.length = n) (hp : RdI w .i64 P ps) (hr : RdI w .i64 A zs) (m1 : m ≤ 1000) (n1 : n ≤ 1000000)
    (hok : ∀ i, i < m → 1 ≤ zat ps i ∧ zat ps i ≤ 100 ∧ 1 ≤ n) :
    Calls Try.prog 60 #[.slice P m d, .slice A n c] w (MadeR m (rowL (pctS zs ps) m) w) := by
  obtain ⟨i0, hi, hz0, hz1, hz2⟩ := info_parts mkInfo
  have KS := sorted_at A c zs w hr (by omega)
  unfold SortedR at KS
  rw [hn] at KS
  have HS := Lib.hid KS
  have HM := Lib.hid hm
  have HN := Lib.hid hn
  have OK := Lib.hid hok
  have B0 : Below w.heap.size w (w.alloc (.cells #[.slice A n c] 23)) := (Below.refl _ _).alloc (Nat.le_refl _) _
  have HB0 := Lib.hid B0
  have HP0 := Lib.hid (hp.kept B0)
  have ZW := Lib.hid (srt_wf (rdI_wf hr))
  clear KS hm hn hok B0 hp hr
  go_enter Try.func60, Try.ntmps60
  go_wp2_with fail
  refine (values_call A n c w).mono ?_
  rintro e w0 ⟨rfl, rfl⟩
  go_wp2_with fail
  refine HS.out.mono ?_
  rintro e w1 ⟨Z, cz, rfl, hZ, hb1⟩
  have B1 := Lib.hid (HB0.out.trans (hb1.mono HB0.out.size))
  have IN1 : RkIn w w1 P Z ps (srt zs) := ⟨HP0.out.kept hb1, hZ⟩
  have HI1 := Lib.hid IN1
  have b1 := B1.out.size
  clear hb1 hZ IN1
  go_wp2_with (at_make; refine wpList_make_own _ rfl _ _ 23 rfl w1.heap.size 3 i0 (.int .i64 0) 1 Try.underlying23 hi hz0 hz1 _ _ _ m rfl rfl (by omega) (by rw [hz2]; omega) (by unfold maxLen; omega) (Nat.le_refl _) ?_; intro w2 hown2 hgrow2)
  have hb2 : Below w1.heap.size w1 w2 := (Below.refl _ _).grown hgrow2 (Nat.le_refl _) (fun k h => by cases h)
  have HR2 := Lib.hid (show RkRow zs ps 0 (.slice (some ⟨w1.heap.size, 0, none⟩) 0 m) w1 w2 from ⟨hown2, hb2⟩)
  clear hown2 hgrow2 hb2
  go_wp2_with fail
  go_loopw [7, 20] (fun v i wr => ∃ k : Nat, k ≤ m ∧ i = .int .i64 k ∧ RkRow zs ps k v w1 wr) (fun _ i _ => m - (intOf i).toNat)
  case atStart => exact ⟨0, by omega, rfl, HR2.out⟩
  case round =>
    obtain ⟨k, hk, rfl, hown, hb⟩ := hrel
    have hin := HI1.out.next hb
    by_cases h : k < m
    · obtain ⟨o1, o2, o3⟩ := OK.out k h
      obtain ⟨b, off, rfl, hlt, hc⟩ := rdI_row hin.p (by have := HM.out; omega)
      have ck := hc k (by have := HM.out; omega)
      obtain ⟨b2, off2, rfl, hlt2, hc2⟩ := rdI_row hin.s (by have := HN.out; rw [srt_len]; omega)
      obtain ⟨p, hp⟩ : ∃ p, zat ps k = p := ⟨_, rfl⟩
      rw [hp] at ck o1 o2
      obtain ⟨t, ht⟩ : ∃ t, (plI p n).toNat - 1 = t := ⟨_, rfl⟩
      have KP := fun w => rplace_t p n t w o1 o2 o3 n1 ht
      have tn : t < n := (KP w).1
      have HP := Lib.hid (fun w => (KP w).2)
      have ct := hc2 t (by have := HN.out; rw [srt_len]; omega)
      obtain ⟨x, hx⟩ : ∃ x, zat (srt zs) t = x := ⟨_, rfl⟩
      rw [hx] at ct
      have X := Lib.hid (show x = pctS zs ps k by unfold pctS; rw [hp, HN.out, ht, hx])
      obtain ⟨vA, vc, hv⟩ := mkSlice hown
      subst hv
      clear hc hc2 hin KP hp ht hx
      go_wp2_with (first
        | (go_at_call 55; refine (HP.out _).mono ?_; rintro e w3 ⟨rfl, rfl⟩)
        | (at_builtin; refine wpList_append_own _ rfl _ _ 23 rfl w1.heap.size 3 i0 (.int .i64 0) 1 8 Try.underlying23 hi hz0 hz1 hz2 rfl (by decide) _ _ _ rfl (hown.alloc _) ⟨_, 0, none⟩ 1 1 [.int .i64 _] rfl rfl one_newR (by intro u hu; simp at hu; subst hu; rfl) (by unfold maxLen; omega) (by omega) (by have := hb.size; simp; omega) ?_; intro v' w4 hown' hgrow _))
      have hb4 : Below w1.heap.size w1 w4 := by
        refine (hb.alloc hb.size _).grown hgrow (by have := hb.size; simp; omega) (fun g hg => ?_)
        first | exact ownR_ge hown hg | exact ownR_ge hown hg.symm
      have HR := Lib.hid (rkrow_push X.out hown' hb4)
      clear hown' hgrow
      go_wp2_with fail
      go_roundw
      case rel => exact ⟨k + 1, by omega, by go_num, HR.out⟩
      case measure => simp [intOf]; omega
    · obtain rfl : k = m := by omega
      have hlen := rowL_len (pctS zs ps) k
      have WF : ∀ i, i < (rowL (pctS zs ps) k).length → (Lit.int .i64 (zat (rowL (pctS zs ps) k) i)).wf = true := fun i hi => by
        rw [hlen] at hi
        rw [rowL_at _ hi]
        obtain ⟨o1, o2, o3⟩ := OK.out i hi
        have := (rplace_t (zat ps i) n _ w o1 o2 o3 n1 rfl).1
        unfold pctS
        rw [HN.out]
        exact ZW.out _ (by rw [srt_len, HN.out]; exact this)
      obtain ⟨g, cap, e, hR⟩ := ownR_rd (ownR_len hown hlen) WF
      rw [hlen] at e
      subst e
      have HE := Lib.hid (show MadeR k (rowL (pctS zs ps) k) w (.returned (.tuple #[.slice g k cap, .int .i64 0])) wr from ⟨g, cap, rfl, hR, B1.out.trans (hb.mono b1)⟩)
      clear WF hlen hown hR
      go_wp2_with fail
      go_ret2
      exact HE.out
set_option maxRecDepth 100000 in
set_option maxHeartbeats 4000000 in
theorem rmany_no (P A : Option Addr) (d c m n j : Nat) (ps zs : List Int) (w : World) (hm : ps.length = m) (hn : zs.length = n) (hp : RdI w .i64 P ps) (hr : RdI w .i64 A zs) (m1 : m ≤ 1000) (n1 : n ≤ 1000000) (hj : j < m)
    (hok : ∀ i, i < j → 1 ≤ zat ps i ∧ zat ps i ≤ 100 ∧ 1 ≤ n) (hno : zat ps j < 1 ∨ 100 < zat ps j ∨ n < 1) :
    Calls Try.prog 60 #[.slice P m d, .slice A n c] w fun e w' => e = .returned (.tuple #[.slice none 0 0, .int .i64 22]) ∧ Below w.heap.size w w' := by
  obtain ⟨i0, hi, hz0, hz1, hz2⟩ := info_parts mkInfo
  have KS := sorted_at A c zs w hr (by omega)
  unfold SortedR at KS
  rw [hn] at KS
  have HS := Lib.hid KS
  have HM := Lib.hid hm
  have HN := Lib.hid hn
  have OK := Lib.hid hok
  have B0 : Below w.heap.size w (w.alloc (.cells #[.slice A n c] 23)) := (Below.refl _ _).alloc (Nat.le_refl _) _
  have HB0 := Lib.hid B0
  have HP0 := Lib.hid (hp.kept B0)
  obtain ⟨pj, hpj⟩ : ∃ pj, zat ps j = pj := ⟨_, rfl⟩
  rw [hpj] at hno
  have KN := Lib.hid (fun w => rplace_no pj n w (by omega))
  have HPJ := Lib.hid hpj
  clear KS hm hn hok B0 hp hr hno hpj
  go_enter Try.func60, Try.ntmps60
  go_wp2_with fail
  refine (values_call A n c w).mono ?_
  rintro e w0 ⟨rfl, rfl⟩
  go_wp2_with fail
  refine HS.out.mono ?_
  rintro e w1 ⟨Z, cz, rfl, hZ, hb1⟩
  have B1 := Lib.hid (HB0.out.trans (hb1.mono HB0.out.size))
  have IN1 : RkIn w w1 P Z ps (srt zs) := ⟨HP0.out.kept hb1, hZ⟩
  have HI1 := Lib.hid IN1
  have b1 := B1.out.size
  clear hb1 hZ IN1
  go_wp2_with (at_make; refine wpList_make_own _ rfl _ _ 23 rfl w1.heap.size 3 i0 (.int .i64 0) 1 Try.underlying23 hi hz0 hz1 _ _ _ m rfl rfl (by omega) (by rw [hz2]; omega) (by unfold maxLen; omega) (Nat.le_refl _) ?_; intro w2 hown2 hgrow2)
  have hb2 : Below w1.heap.size w1 w2 := (Below.refl _ _).grown hgrow2 (Nat.le_refl _) (fun k h => by cases h)
  have HR2 := Lib.hid (show RkRow zs ps 0 (.slice (some ⟨w1.heap.size, 0, none⟩) 0 m) w1 w2 from ⟨hown2, hb2⟩)
  clear hown2 hgrow2 hb2
  go_wp2_with fail
  go_loopw [7, 20] (fun v i wr => ∃ k : Nat, k ≤ j ∧ i = .int .i64 k ∧ RkRow zs ps k v w1 wr) (fun _ i _ => m - (intOf i).toNat)
  case atStart => exact ⟨0, by omega, rfl, HR2.out⟩
  case round =>
    obtain ⟨k, hk, rfl, hown, hb⟩ := hrel
    have hin := HI1.out.next hb
    obtain ⟨b, off, rfl, hlt, hc⟩ := rdI_row hin.p (by have := HM.out; omega)
    have ck := hc k (by have := HM.out; omega)
    by_cases h : k < j
    · obtain ⟨o1, o2, o3⟩ := OK.out k h
      obtain ⟨b2, off2, rfl, hlt2, hc2⟩ := rdI_row hin.s (by have := HN.out; rw [srt_len]; omega)
      obtain ⟨p, hp⟩ : ∃ p, zat ps k = p := ⟨_, rfl⟩
      rw [hp] at ck o1 o2
      obtain ⟨t, ht⟩ : ∃ t, (plI p n).toNat - 1 = t := ⟨_, rfl⟩
      have KP := fun w => rplace_t p n t w o1 o2 o3 n1 ht
      have tn : t < n := (KP w).1
      have HP := Lib.hid (fun w => (KP w).2)
      have ct := hc2 t (by have := HN.out; rw [srt_len]; omega)
      obtain ⟨x, hx⟩ : ∃ x, zat (srt zs) t = x := ⟨_, rfl⟩
      rw [hx] at ct
      have X := Lib.hid (show x = pctS zs ps k by unfold pctS; rw [hp, HN.out, ht, hx])
      obtain ⟨vA, vc, hv⟩ := mkSlice hown
      subst hv
      have km : k < m := by omega
      clear hc hc2 hin KP hp ht hx
      go_wp2_with (first
        | (go_at_call 55; refine (HP.out _).mono ?_; rintro e w3 ⟨rfl, rfl⟩)
        | (at_builtin; refine wpList_append_own _ rfl _ _ 23 rfl w1.heap.size 3 i0 (.int .i64 0) 1 8 Try.underlying23 hi hz0 hz1 hz2 rfl (by decide) _ _ _ rfl (hown.alloc _) ⟨_, 0, none⟩ 1 1 [.int .i64 _] rfl rfl one_newR (by intro u hu; simp at hu; subst hu; rfl) (by unfold maxLen; omega) (by omega) (by have := hb.size; simp; omega) ?_; intro v' w4 hown' hgrow _))
      have hb4 : Below w1.heap.size w1 w4 := by
        refine (hb.alloc hb.size _).grown hgrow (by have := hb.size; simp; omega) (fun g hg => ?_)
        first | exact ownR_ge hown hg | exact ownR_ge hown hg.symm
      have HR := Lib.hid (rkrow_push X.out hown' hb4)
      clear hown' hgrow
      go_wp2_with fail
      go_roundw
      case rel => exact ⟨k + 1, by omega, by go_num, HR.out⟩
      case measure => simp [intOf]; omega
    · obtain rfl : k = j := by omega
      rw [HPJ.out] at ck
      have HB := Lib.hid (B1.out.trans (hb.mono b1))
      clear hc hin hown
      go_wp2_with (go_at_call 55; refine (KN.out _).mono ?_; rintro e w3 ⟨rfl, rfl⟩)
      go_ret2
      exact ⟨rfl, HB.out⟩
end Go.Proofs.Ytcofafiacpecnaa
