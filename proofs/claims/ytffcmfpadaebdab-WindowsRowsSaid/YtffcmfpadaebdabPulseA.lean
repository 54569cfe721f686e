/- Contracts of pulse.Count; alive of layer 63. -/
import Derived.Test.YtffcmfpadaebdabRows
import Derived.Test.YtffcmfpadaebdabRowKit
import Derived.Test.YtffcmfpadaebdabSlicesEq
import Derived.Test.YtffcmfpadaebdabSlicesEqM
import Derived.Test.YtffcmfpadaebdabRowL
import Derived.Test.YtffcmfpadaebdabMakeI
import Derived.Test.YtffcmfpadaebdabPulseMath
import Derived.WalkKit
import Derived.IntWalk
import Derived.Lib.Hide
import Derived.WalkSpells
import Derived.WalkLawsBesides
import Derived.Laws.CopyOwn
import Derived.Laws.MakeOwn
import Derived.Laws.OwnMore
import Derived.OwnWalk
import Derived.Deep.QuietTactic
import Derived.BigQuiet
namespace Go.Proofs.Ytffcmfpadaebdab
open Go.RowKit
set_option linter.unusedSimpArgs false
set_option linter.unusedVariables false
set_option maxHeartbeats 1000000 in
theorem pcount_bad (A : Option Addr) (m c : Nat) (d h : Int) (w : World) (hb : d < 1 ∨ h < 0) :
    Calls Try.prog 13 #[.slice A m c, .int .i64 d, .int .i64 h] w fun e w' => e = .returned (.tuple #[.slice none 0 0, .int .i64 22]) ∧ w = w' := by
  by_cases h1 : d < 1
  · clear hb
    go_enter Try.func13, Try.ntmps13
    go_wp2_with fail
    go_ret2
    exact ⟨rfl, rfl⟩
  · have h2 : h < 0 := by omega
    clear hb
    go_enter Try.func13, Try.ntmps13
    go_wp2_with fail
    go_ret2
    exact ⟨rfl, rfl⟩

set_option maxHeartbeats 1000000 in
theorem pcount_size_e (A : Option Addr) (l c : Nat) (d h : Int) (w : World) (hd : 1 ≤ d) (hh : 0 ≤ h) (hh' : h ≤ 9223372036854775807) (hr0 : h % d = 0) (hb : 65536 < manyP d h) :
    Calls Try.prog 13 #[.slice A l c, .int .i64 d, .int .i64 h] w fun e w' => e = .returned (.tuple #[.slice none 0 0, .int .i64 21]) ∧ w = w' := by
  have hz : (d == 0) = false := by rw [beq_eq_false_iff_ne]; omega
  have he := manyP_even hd hh hr0
  obtain ⟨n, hn⟩ : ∃ n, manyP d h = n := ⟨_, rfl⟩
  rw [hn] at hb he
  have hb' : ¬ (n : Int) ≤ 65536 := by omega
  have n1 : (n : Int) ≤ 9223372036854775807 := by have := manyP_bd hd hh hh'; omega
  clear hn
  go_enter Try.func13, Try.ntmps13
  go_wp2_with fail
  go_ret2
  exact ⟨rfl, rfl⟩

set_option maxRecDepth 100000 in
set_option maxHeartbeats 2000000 in
theorem pcount_ok_e (A : Option Addr) (c : Nat) (zs : List Int) (d h : Int) (n : Nat) (w : World) (hd : 1 ≤ d) (hh : 0 ≤ h) (hh' : h ≤ 9223372036854775807) (hr0 : h % d = 0) (hn : manyP d h = n) (hn' : n ≤ 65536) (hr : RdI w .i64 A zs) (hl : zs.length ≤ 1000) :
    Calls Try.prog 13 #[.slice A zs.length c, .int .i64 d, .int .i64 h] w (MadeR n (rowL (pcnt d h zs zs.length) n) w) := by
  obtain ⟨i0, hi, hz0, hz1, hz2⟩ := info_parts mkInfo
  have HX := Lib.hid (fun (x : Int) (hx : 0 ≤ x) (hxh : x < h) => pos_lt hd hx hxh)
  rw [hn] at HX
  have HZ := Lib.hid (mkZeros n)
  have CB := Lib.hid (pcnt_bd d h zs)
  have HP := Lib.hid (fun (g k j : Nat) (u : Int) (hg : g = g) => hg)
  have HR0 := Lib.hid hr
  have WF : Hid (∀ i, i < zs.length → -9223372036854775808 ≤ zat zs i ∧ zat zs i ≤ 9223372036854775807) := Lib.hid fun i hi => by obtain ⟨_, _, _, _, hw⟩ := hr i hi; exact bounds_i64 hw
  have hz : (d == 0) = false := by rw [beq_eq_false_iff_ne]; omega
  have he := manyP_even hd hh hr0
  rw [hn] at he
  clear hn hr
  go_enter Try.func13, Try.ntmps13
  go_wp2_with (at_make; refine wpList_make_full _ rfl _ _ 40 rfl w.heap.size 3 i0 (.int .i64 0) 1 Try.underlying40 hi hz0 hz1 _ _ _ _ n rfl rfl (by omega) (by omega) (by rw [hz2]; omega) (by unfold maxLen; omega) (Nat.le_refl _) ?_; intro w0 hown0 hgrow0)
  rw [HZ.out] at hown0
  have hb0 : Below w.heap.size w w0 := (Below.refl _ _).grown hgrow0 (Nat.le_refl _) (fun k h => by cases h)
  have HO := Lib.hid hown0
  have HBl := Lib.hid hb0
  clear hgrow0 hown0 hb0 he
  go_wp2_with fail
  go_loopw [33] (fun i wr => ∃ k : Nat, k ≤ zs.length ∧ i = .int .i64 k ∧ wr.ownsRow w.heap.size 3 1 (.slice (some ⟨w.heap.size, 0, none⟩) n n) n ((rowL (pcnt d h zs k) n).map (Value.int .i64)) ∧ Below w.heap.size w wr) (fun i _ => zs.length - (intOf i).toNat)
  case atStart => exact ⟨0, by omega, rfl, HO.out, HBl.out⟩
  case round =>
    obtain ⟨k, hk, rfl, hown, hb⟩ := hrel
    by_cases hkl : k < zs.length
    · obtain ⟨b, off, rfl, hlt, hc⟩ := rdI_row HR0.out (by omega)
      have c1 := (hb.cell (p := ⟨b, off + k, none⟩) hlt).trans (hc k hkl)
      have hw1 := WF.out k hkl
      by_cases hx0 : 0 ≤ zat zs k
      · by_cases hx1 : zat zs k < h
        · obtain ⟨y1, y2⟩ := HX.out _ hx0 hx1
          have c2 := ownR_cell hown y1
          have f2 := hown.frozenAt (zat zs k / d).toNat
          have b1 := CB.out k (zat zs k / d).toNat
          have S := Lib.hid (fun u (hu : u = pcnt d h zs k (zat zs k / d).toNat + 1) => mkRow_put hown (show (rowL (pcnt d h zs k) n).set (zat zs k / d).toNat u = rowL (pcnt d h zs (k + 1)) n by
            rw [hu, rowL_set]
            exact rowL_congr fun j _ => by
              rw [pcnt_succ]
              by_cases e : j = (zat zs k / d).toNat
              · rw [if_pos e, if_pos ⟨hx0, hx1, e⟩, e]
              · rw [if_neg e, if_neg (fun hc => e hc.2.2)]))
          obtain ⟨j, hj⟩ : ∃ j, (zat zs k / d).toNat = j := ⟨_, rfl⟩
          rw [hj] at y1 y2 c2 f2 b1 S
          obtain ⟨y, hy⟩ : ∃ y, pcnt d h zs k j = y := ⟨_, rfl⟩
          rw [hy] at c2 b1 S
          obtain ⟨x, hx⟩ : ∃ x, zat zs k = x := ⟨_, rfl⟩
          rw [hx] at c1 hx0 hx1 y2 hw1
          have HB3 := Lib.hid hb
          clear hc hj hy hx hown hb
          go_wp2_with fail
          go_roundw
          case rel => exact ⟨k + 1, by omega, by go_num, S.out _ rfl, HB3.out.setCell (Nat.le_refl _) _⟩
          case measure => simp [intOf]; omega
        · have E : rowL (pcnt d h zs (k + 1)) n = rowL (pcnt d h zs k) n := rowL_congr fun i _ => if_neg (fun hc => hx1 hc.2.1)
          have E' := Lib.hid E
          obtain ⟨x, hx⟩ : ∃ x, zat zs k = x := ⟨_, rfl⟩
          rw [hx] at c1 hx0 hx1 hw1
          clear hc hx E
          go_wp2_with fail
          go_roundw
          case rel => exact ⟨k + 1, by omega, by go_num, by rw [E'.out]; exact hown, hb⟩
          case measure => simp [intOf]; omega
      · have E : rowL (pcnt d h zs (k + 1)) n = rowL (pcnt d h zs k) n := rowL_congr fun i _ => if_neg (fun hc => hx0 hc.1)
        have E' := Lib.hid E
        obtain ⟨x, hx⟩ : ∃ x, zat zs k = x := ⟨_, rfl⟩
        rw [hx] at c1 hx0 hw1
        clear hc hx E
        go_wp2_with fail
        go_roundw
        case rel => exact ⟨k + 1, by omega, by go_num, by rw [E'.out]; exact hown, hb⟩
        case measure => simp [intOf]; omega
    · obtain rfl : k = zs.length := by omega
      obtain ⟨B, cc, hv, hR⟩ := ownR_rd (ownR_len hown (rowL_len _ _)) (pcnt_wf d h zs n zs.length hl)
      go_wp2_with fail
      go_ret2
      refine ⟨_, _, rfl, ?_, hb⟩
      rw [rowL_len] at hv
      cases hv
      exact hR

set_option maxHeartbeats 1000000 in
theorem pcount_size_o (A : Option Addr) (l c : Nat) (d h : Int) (w : World) (hd : 1 ≤ d) (hh : 0 ≤ h) (hh' : h ≤ 9223372036854775807) (hr0 : h % d ≠ 0) (hb : 65536 < manyP d h) :
    Calls Try.prog 13 #[.slice A l c, .int .i64 d, .int .i64 h] w fun e w' => e = .returned (.tuple #[.slice none 0 0, .int .i64 21]) ∧ w = w' := by
  have hz : (d == 0) = false := by rw [beq_eq_false_iff_ne]; omega
  obtain ⟨m, he, hm1, hm2⟩ := manyP_odd hd hh hh' hr0
  obtain ⟨q, hq⟩ : ∃ q : Int, (m : Int) = q := ⟨_, rfl⟩
  have q0 : 0 ≤ q := by omega
  rw [hq] at he hm2
  rw [hm1] at hb
  have hb' : 65536 < q + 1 := by omega
  have hb2 : ¬ q + 1 ≤ 65536 := by omega
  obtain ⟨r, hr⟩ : ∃ r, h % d = r := ⟨_, rfl⟩
  rw [hr] at hr0
  clear hm1 hq hb
  go_enter Try.func13, Try.ntmps13
  go_wp2_with fail
  go_ret2
  exact ⟨rfl, rfl⟩

set_option maxRecDepth 100000 in
set_option maxHeartbeats 2000000 in
theorem pcount_ok_o (A : Option Addr) (c : Nat) (zs : List Int) (d h : Int) (n : Nat) (w : World) (hd : 1 ≤ d) (hh : 0 ≤ h) (hh' : h ≤ 9223372036854775807) (hr0 : h % d ≠ 0) (hn : manyP d h = n) (hn' : n ≤ 65536) (hr : RdI w .i64 A zs) (hl : zs.length ≤ 1000) :
    Calls Try.prog 13 #[.slice A zs.length c, .int .i64 d, .int .i64 h] w (MadeR n (rowL (pcnt d h zs zs.length) n) w) := by
  obtain ⟨i0, hi, hz0, hz1, hz2⟩ := info_parts mkInfo
  have HX := Lib.hid (fun (x : Int) (hx : 0 ≤ x) (hxh : x < h) => pos_lt hd hx hxh)
  rw [hn] at HX
  have HZ := Lib.hid (mkZeros n)
  have CB := Lib.hid (pcnt_bd d h zs)
  have HP := Lib.hid (fun (g k j : Nat) (u : Int) (hg : g = g) => hg)
  have HR0 := Lib.hid hr
  have WF : Hid (∀ i, i < zs.length → -9223372036854775808 ≤ zat zs i ∧ zat zs i ≤ 9223372036854775807) := Lib.hid fun i hi => by obtain ⟨_, _, _, _, hw⟩ := hr i hi; exact bounds_i64 hw
  have hz : (d == 0) = false := by rw [beq_eq_false_iff_ne]; omega
  obtain ⟨m, he, hm1, hm2⟩ := manyP_odd hd hh hh' hr0
  obtain ⟨q, hq⟩ : ∃ q : Int, (m : Int) = q := ⟨_, rfl⟩
  have q0 : 0 ≤ q := by omega
  rw [hq] at he hm2
  have hq1 : q + 1 = (n : Int) := by omega
  obtain ⟨r, hrr⟩ : ∃ r, h % d = r := ⟨_, rfl⟩
  rw [hrr] at hr0
  clear hm1 hq
  clear hn hr
  go_enter Try.func13, Try.ntmps13
  go_wp2_with (at_make; refine wpList_make_full _ rfl _ _ 40 rfl w.heap.size 3 i0 (.int .i64 0) 1 Try.underlying40 hi hz0 hz1 _ _ _ _ n rfl rfl (by omega) (by omega) (by rw [hz2]; omega) (by unfold maxLen; omega) (Nat.le_refl _) ?_; intro w0 hown0 hgrow0)
  rw [HZ.out] at hown0
  have hb0 : Below w.heap.size w w0 := (Below.refl _ _).grown hgrow0 (Nat.le_refl _) (fun k h => by cases h)
  have HO := Lib.hid hown0
  have HBl := Lib.hid hb0
  clear hgrow0 hown0 hb0 he
  go_wp2_with fail
  go_loopw [33] (fun i wr => ∃ k : Nat, k ≤ zs.length ∧ i = .int .i64 k ∧ wr.ownsRow w.heap.size 3 1 (.slice (some ⟨w.heap.size, 0, none⟩) n n) n ((rowL (pcnt d h zs k) n).map (Value.int .i64)) ∧ Below w.heap.size w wr) (fun i _ => zs.length - (intOf i).toNat)
  case atStart => exact ⟨0, by omega, rfl, HO.out, HBl.out⟩
  case round =>
    obtain ⟨k, hk, rfl, hown, hb⟩ := hrel
    by_cases hkl : k < zs.length
    · obtain ⟨b, off, rfl, hlt, hc⟩ := rdI_row HR0.out (by omega)
      have c1 := (hb.cell (p := ⟨b, off + k, none⟩) hlt).trans (hc k hkl)
      have hw1 := WF.out k hkl
      by_cases hx0 : 0 ≤ zat zs k
      · by_cases hx1 : zat zs k < h
        · obtain ⟨y1, y2⟩ := HX.out _ hx0 hx1
          have c2 := ownR_cell hown y1
          have f2 := hown.frozenAt (zat zs k / d).toNat
          have b1 := CB.out k (zat zs k / d).toNat
          have S := Lib.hid (fun u (hu : u = pcnt d h zs k (zat zs k / d).toNat + 1) => mkRow_put hown (show (rowL (pcnt d h zs k) n).set (zat zs k / d).toNat u = rowL (pcnt d h zs (k + 1)) n by
            rw [hu, rowL_set]
            exact rowL_congr fun j _ => by
              rw [pcnt_succ]
              by_cases e : j = (zat zs k / d).toNat
              · rw [if_pos e, if_pos ⟨hx0, hx1, e⟩, e]
              · rw [if_neg e, if_neg (fun hc => e hc.2.2)]))
          obtain ⟨j, hj⟩ : ∃ j, (zat zs k / d).toNat = j := ⟨_, rfl⟩
          rw [hj] at y1 y2 c2 f2 b1 S
          obtain ⟨y, hy⟩ : ∃ y, pcnt d h zs k j = y := ⟨_, rfl⟩
          rw [hy] at c2 b1 S
          obtain ⟨x, hx⟩ : ∃ x, zat zs k = x := ⟨_, rfl⟩
          rw [hx] at c1 hx0 hx1 y2 hw1
          have HB3 := Lib.hid hb
          clear hc hj hy hx hown hb
          go_wp2_with fail
          go_roundw
          case rel => exact ⟨k + 1, by omega, by go_num, S.out _ rfl, HB3.out.setCell (Nat.le_refl _) _⟩
          case measure => simp [intOf]; omega
        · have E : rowL (pcnt d h zs (k + 1)) n = rowL (pcnt d h zs k) n := rowL_congr fun i _ => if_neg (fun hc => hx1 hc.2.1)
          have E' := Lib.hid E
          obtain ⟨x, hx⟩ : ∃ x, zat zs k = x := ⟨_, rfl⟩
          rw [hx] at c1 hx0 hx1 hw1
          clear hc hx E
          go_wp2_with fail
          go_roundw
          case rel => exact ⟨k + 1, by omega, by go_num, by rw [E'.out]; exact hown, hb⟩
          case measure => simp [intOf]; omega
      · have E : rowL (pcnt d h zs (k + 1)) n = rowL (pcnt d h zs k) n := rowL_congr fun i _ => if_neg (fun hc => hx0 hc.1)
        have E' := Lib.hid E
        obtain ⟨x, hx⟩ : ∃ x, zat zs k = x := ⟨_, rfl⟩
        rw [hx] at c1 hx0 hw1
        clear hc hx E
        go_wp2_with fail
        go_roundw
        case rel => exact ⟨k + 1, by omega, by go_num, by rw [E'.out]; exact hown, hb⟩
        case measure => simp [intOf]; omega
    · obtain rfl : k = zs.length := by omega
      obtain ⟨B, cc, hv, hR⟩ := ownR_rd (ownR_len hown (rowL_len _ _)) (pcnt_wf d h zs n zs.length hl)
      go_wp2_with fail
      go_ret2
      refine ⟨_, _, rfl, ?_, hb⟩
      rw [rowL_len] at hv
      cases hv
      exact hR

theorem pcount_ok (A : Option Addr) (c : Nat) (zs : List Int) (d h : Int) (n : Nat) (w : World) (hd : 1 ≤ d) (hh : 0 ≤ h) (hh' : h ≤ 9223372036854775807) (hn : manyP d h = n) (hn' : n ≤ 65536) (hr : RdI w .i64 A zs) (hl : zs.length ≤ 1000) :
    Calls Try.prog 13 #[.slice A zs.length c, .int .i64 d, .int .i64 h] w (MadeR n (rowL (pcnt d h zs zs.length) n) w) := by
  by_cases h0 : h % d = 0
  · exact pcount_ok_e A c zs d h n w hd hh hh' h0 hn hn' hr hl
  · exact pcount_ok_o A c zs d h n w hd hh hh' h0 hn hn' hr hl
theorem pcount_size (A : Option Addr) (l c : Nat) (d h : Int) (w : World) (hd : 1 ≤ d) (hh : 0 ≤ h) (hh' : h ≤ 9223372036854775807) (hb : 65536 < manyP d h) :
    Calls Try.prog 13 #[.slice A l c, .int .i64 d, .int .i64 h] w fun e w' => e = .returned (.tuple #[.slice none 0 0, .int .i64 21]) ∧ w = w' := by
  by_cases h0 : h % d = 0
  · exact pcount_size_e A l c d h w hd hh hh' h0 hb
  · exact pcount_size_o A l c d h w hd hh hh' h0 hb
end Go.Proofs.Ytffcmfpadaebdab
