/- The walk of PulseCounts: it answers true for every input, and leaves all old blocks as they were. No condition. -/
import Derived.Test.YtmdjncknjbjmbaaRows
import Derived.Test.YtmdjncknjbjmbaaRowKit
import Derived.Test.YtmdjncknjbjmbaaSlicesEq
import Derived.Test.YtmdjncknjbjmbaaSlicesEqM
import Derived.Test.YtmdjncknjbjmbaaRowL
import Derived.Test.YtmdjncknjbjmbaaMakeI
import Derived.Test.YtmdjncknjbjmbaaPulseMath
import Derived.Test.YtmdjncknjbjmbaaPulseA
import Derived.Test.YtmdjncknjbjmbaaPulseB
import Derived.WalkKit
import Derived.ProofKit
import Derived.OpenShut
import Derived.Deep.QuietTactic
import Derived.BigQuiet
import Derived.Lib.SmallJoins
import Derived.Lib.Hide
import Derived.WalkSpells
import Derived.WalkLawsBesides
import Derived.IntWalk
import Derived.OwnWalk
import Derived.Laws.CopyOwn
import Derived.Laws.MakeOwn
import Derived.Laws.OwnMore
import Derived.Deep.LoopGhost
namespace Go.Proofs.Ytmdjncknjbjmbaa.pulseCounts
open Go.ChangeShapes Go.WideShapes Go.ChangeAt Go.RowKit Go.Joins
set_option linter.unusedSimpArgs false
set_option linter.unusedVariables false

set_option maxHeartbeats 1000000 in
theorem walk_big (A : Option Addr) (m c : Nat) (d h : Int) (w : World) (hm : 100 < m) :
    Calls Try.prog 5 #[.slice A m c, .int .i64 d, .int .i64 h] w fun e w' => e = .returned (.bool true) ∧ Below w.heap.size w w' := by
  go_enter Try.func5, Try.ntmps5
  go_wp2_with fail
  go_ret
  exact ⟨rfl, Below.refl _ _⟩
set_option maxHeartbeats 1000000 in
theorem walk_bad (A : Option Addr) (m c : Nat) (d h : Int) (w : World) (hm : m ≤ 100) (hb : d < 1 ∨ h < 0) :
    Calls Try.prog 5 #[.slice A m c, .int .i64 d, .int .i64 h] w fun e w' => e = .returned (.bool true) ∧ Below w.heap.size w w' := by
  have H1 := Lib.hid (fun w => pcount_bad A m c d h w hb)
  rcases (show d < 1 ∨ (¬ d < 1 ∧ h < 0) by omega) with h1 | ⟨h1, h2⟩
  all_goals (
    clear hb
    go_enter Try.func5, Try.ntmps5
    go_wp2_with (first
      | (go_at_call 24; refine (H1.out _).mono ?_; rintro e w' ⟨rfl, rfl⟩)
      | (go_at_call 25; refine (palive _).mono ?_; rintro e w1 ⟨rfl, hb⟩))
    go_ret
    exact ⟨rfl, hb⟩)
set_option maxHeartbeats 1000000 in
theorem walk_size (A : Option Addr) (m c : Nat) (d h : Int) (w : World) (hm : m ≤ 100) (hd : 1 ≤ d) (hh : 0 ≤ h) (hh' : h ≤ 9223372036854775807) (hb : 65536 < manyP d h) :
    Calls Try.prog 5 #[.slice A m c, .int .i64 d, .int .i64 h] w fun e w' => e = .returned (.bool true) ∧ Below w.heap.size w w' := by
  have H1 := Lib.hid (fun w => pcount_size A m c d h w hd hh hh' hb)
  have hz : (d == 0) = false := by rw [beq_eq_false_iff_ne]; omega
  have hrd := manyP_bd hd hh hh'
  by_cases hr0 : h % d = 0
  · have he := manyP_even hd hh hr0
    obtain ⟨n, hn⟩ : ∃ n : Int, (manyP d h : Int) = n := ⟨_, rfl⟩
    have hb' : 65536 < n := by omega
    have n1 : n ≤ 9223372036854775807 := by omega
    rw [hn] at he
    clear hn hb hrd
    go_enter Try.func5, Try.ntmps5
    go_wp2_with (first
      | (go_at_call 24; refine (H1.out _).mono ?_; rintro e w' ⟨rfl, rfl⟩)
      | (go_at_call 25; refine (palive _).mono ?_; rintro e w1 ⟨rfl, hb⟩))
    go_ret
    exact ⟨rfl, hb⟩
  · obtain ⟨m', he, hm1, hm2⟩ := manyP_odd hd hh hh' hr0
    obtain ⟨q, hq⟩ : ∃ q : Int, (m' : Int) = q := ⟨_, rfl⟩
    have hb' : 65536 < q + 1 := by omega
    have q0 : 0 ≤ q := by omega
    rw [hq] at he hm2
    obtain ⟨r, hr⟩ : ∃ r, h % d = r := ⟨_, rfl⟩
    have hr1 : 0 < r := by omega
    rw [hr] at hr0
    clear hm1 hq hb hrd
    go_enter Try.func5, Try.ntmps5
    go_wp2_with (first
      | (go_at_call 24; refine (H1.out _).mono ?_; rintro e w' ⟨rfl, rfl⟩)
      | (go_at_call 25; refine (palive _).mono ?_; rintro e w1 ⟨rfl, hb⟩))
    go_ret
    exact ⟨rfl, hb⟩
set_option maxHeartbeats 1000000 in
theorem walk_mid (A : Option Addr) (m c : Nat) (d h : Int) (n : Nat) (w : World) (hm : m ≤ 100) (hd : 1 ≤ d) (hh : 0 ≤ h) (hh' : h ≤ 9223372036854775807) (hn : manyP d h = n) (hn' : n ≤ 65536) (hb : 500 < n) :
    Calls Try.prog 5 #[.slice A m c, .int .i64 d, .int .i64 h] w fun e w' => e = .returned (.bool true) ∧ Below w.heap.size w w' := by
  have hz : (d == 0) = false := by rw [beq_eq_false_iff_ne]; omega
  have hrd := manyP_bd hd hh hh'
  by_cases hr0 : h % d = 0
  · have he := manyP_even hd hh hr0
    rw [hn] at he
    clear hn hrd
    go_enter Try.func5, Try.ntmps5
    go_wp2_with (go_at_call 25; refine (palive _).mono ?_; rintro e w1 ⟨rfl, hb⟩)
    go_ret
    exact ⟨rfl, hb⟩
  · obtain ⟨m', he, hm1, hm2⟩ := manyP_odd hd hh hh' hr0
    obtain ⟨q, hq⟩ : ∃ q : Int, (m' : Int) = q := ⟨_, rfl⟩
    have q0 : 0 ≤ q := by omega
    rw [hq] at he hm2
    have hq1 : q + 1 = (n : Int) := by omega
    obtain ⟨r, hr⟩ : ∃ r, h % d = r := ⟨_, rfl⟩
    have hr1 : 0 < r := by omega
    rw [hr] at hr0
    clear hm1 hq hn hrd
    go_enter Try.func5, Try.ntmps5
    go_wp2_with (go_at_call 25; refine (palive _).mono ?_; rintro e w1 ⟨rfl, hb⟩)
    go_ret
    exact ⟨rfl, hb⟩
/-- the loops' relation -/
def PRow (d h : Int) (zs : List Int) (n i k : Nat) (w wr : World) : Prop := wr.ownsRow w.heap.size 3 1 (.slice (some ⟨w.heap.size, 0, none⟩) n n) n ((rowL (pstg d h zs i k) n).map (Value.int .i64)) ∧ Below w.heap.size w wr
set_option maxRecDepth 100000 in
set_option maxHeartbeats 4000000 in
theorem walk_ok_e (A : Option Addr) (c : Nat) (zs : List Int) (d h : Int) (n : Nat) (w : World) (hl : zs.length ≤ 100) (hd : 1 ≤ d) (hh : 0 ≤ h) (hh' : h ≤ 9223372036854775807) (hr0 : h % d = 0) (hn : manyP d h = n) (hn' : n ≤ 500) (hr : RdI w .i64 A zs) :
    Calls Try.prog 5 #[.slice A zs.length c, .int .i64 d, .int .i64 h] w fun e w' => e = .returned (.bool true) ∧ Below w.heap.size w w' := by
  obtain ⟨i0, hi, hz0, hz1, hz2⟩ := info_parts mkInfo
  have H1 := Lib.hid (fun w (hr : RdI w .i64 A zs) => pcount_ok A c zs d h n w hd hh hh' hn (by omega) hr (by omega))
  have HX := Lib.hid (fun (x : Int) (hx : 0 ≤ x) (hxh : x < h) => pos_lt hd hx hxh)
  rw [hn] at HX
  have HZ := Lib.hid (mkZeros n)
  have CB := Lib.hid (pcnt_bd d h zs)
  have HR0 := Lib.hid hr
  have WF : Hid (∀ i, i < zs.length → -9223372036854775808 ≤ zat zs i ∧ zat zs i ≤ 9223372036854775807) := Lib.hid fun i hi => by obtain ⟨_, _, _, _, hw⟩ := hr i hi; exact bounds_i64 hw
  have hz : (d == 0) = false := by rw [beq_eq_false_iff_ne]; omega
  have he := manyP_even hd hh hr0
  rw [hn] at he
  clear hn hr
  go_enter Try.func5, Try.ntmps5
  go_wp2_with (at_make; refine wpList_make_full _ rfl _ _ 34 rfl w.heap.size 3 i0 (.int .i64 0) 1 Try.underlying34 hi hz0 hz1 _ _ _ _ n rfl rfl (by omega) (by omega) (by rw [hz2]; omega) (by unfold maxLen; omega) (Nat.le_refl _) ?_; intro w0 hown0 hgrow0)
  rw [HZ.out, ← pstg_start d h zs] at hown0
  have hb0 : Below w.heap.size w w0 := (Below.refl _ _).grown hgrow0 (Nat.le_refl _) (fun k h => by cases h)
  have HO : PRow d h zs n 0 0 w w0 := ⟨hown0, hb0⟩
  clear hgrow0 hown0 hb0 he 
  go_wp2_with fail
  go_loopg [13] n (fun g i wr => ∃ k : Nat, k ≤ n ∧ g = n - k ∧ i = .int .i64 k ∧ PRow d h zs n k 0 w wr)
  case atStart => exact ⟨0, by omega, rfl, rfl, HO⟩
  case round =>
    obtain ⟨i, hi1, rfl, rfl, hR⟩ := hrel
    by_cases hin : i < n
    · go_wp2_with fail
      go_loopg [14] zs.length (fun g j wi => ∃ k : Nat, k ≤ zs.length ∧ g = zs.length - k ∧ j = .int .i64 k ∧ PRow d h zs n i k w wi)
      case atStart => exact ⟨0, by omega, rfl, rfl, hR⟩
      case round =>
        obtain ⟨k, hk, rfl, rfl, hown, hb⟩ := hrel
        by_cases hkl : k < zs.length
        · obtain ⟨b, off, rfl, hlt, hc⟩ := rdI_row HR0.out (by omega)
          have c1 := (hb.cell (p := ⟨b, off + k, none⟩) hlt).trans (hc k hkl)
          have hw1 := WF.out k hkl
          by_cases hx0 : 0 ≤ zat zs k
          · by_cases hx1 : zat zs k < h
            · obtain ⟨y1, y2⟩ := HX.out _ hx0 hx1
              by_cases hji : i = (zat zs k / d).toNat
              · have c2 := ownR_cell hown hin
                rw [pstg_at] at c2
                have f2 := hown.frozenAt i
                have b1 := CB.out k i
                have S := Lib.hid (fun u (hu : u = pcnt d h zs k i + 1) => mkRow_put hown (show (rowL (pstg d h zs i k) n).set i u = rowL (pstg d h zs i (k + 1)) n by
                  rw [hu]; exact pstg_put ⟨hx0, hx1, hji⟩ n))
                rw [← hji] at y2
                obtain ⟨y, hy⟩ : ∃ y, pcnt d h zs k i = y := ⟨_, rfl⟩
                rw [hy] at c2 b1 S
                obtain ⟨x, hx⟩ : ∃ x, zat zs k = x := ⟨_, rfl⟩
                rw [hx] at c1 hx0 hx1 y2 hw1
                have HB3 := Lib.hid hb
                clear hc hy hx hown hb hji y1
                go_wp2_with fail
                go_roundg (zs.length - (k + 1))
                case measure => omega
                case rel => exact ⟨k + 1, by omega, rfl, by go_num, S.out _ rfl, HB3.out.setCell (Nat.le_refl _) _⟩
              · have E := Lib.hid (pstg_skip (d := d) (h := h) (zs := zs) (i := i) (k := k) (fun hc => hji hc.2.2) n)
                obtain ⟨j, hj⟩ : ∃ j, (zat zs k / d).toNat = j := ⟨_, rfl⟩
                rw [hj] at y1 y2 hji
                have hne : ((j : Int) == (i : Int)) = false := by rw [beq_eq_false_iff_ne]; omega
                obtain ⟨x, hx⟩ : ∃ x, zat zs k = x := ⟨_, rfl⟩
                rw [hx] at c1 hx0 hx1 y2 hw1
                clear hc hj hx hji
                go_wp2_with fail
                go_roundg (zs.length - (k + 1))
                case measure => omega
                case rel => exact ⟨k + 1, by omega, rfl, by go_num, by rw [E.out]; exact hown, hb⟩
            · have E := Lib.hid (pstg_skip (d := d) (h := h) (zs := zs) (i := i) (k := k) (fun hc => hx1 hc.2.1) n)
              obtain ⟨x, hx⟩ : ∃ x, zat zs k = x := ⟨_, rfl⟩
              rw [hx] at c1 hx0 hx1 hw1
              clear hc hx
              go_wp2_with fail
              go_roundg (zs.length - (k + 1))
              case measure => omega
              case rel => exact ⟨k + 1, by omega, rfl, by go_num, by rw [E.out]; exact hown, hb⟩
          · have E := Lib.hid (pstg_skip (d := d) (h := h) (zs := zs) (i := i) (k := k) (fun hc => hx0 hc.1) n)
            obtain ⟨x, hx⟩ : ∃ x, zat zs k = x := ⟨_, rfl⟩
            rw [hx] at c1 hx0 hw1
            clear hc hx
            go_wp2_with fail
            go_roundg (zs.length - (k + 1))
            case measure => omega
            case rel => exact ⟨k + 1, by omega, rfl, by go_num, by rw [E.out]; exact hown, hb⟩
        · obtain rfl : k = zs.length := by omega
          go_wp2_with fail
          go_roundg (n - (i + 1))
          case measure => omega
          case rel => exact ⟨i + 1, by omega, rfl, by go_num, by rw [← pstg_next]; exact hown, hb⟩
    · obtain rfl : i = n := by omega
      obtain ⟨hown, hb⟩ := hR
      rw [pstg_end] at hown
      obtain ⟨B, cc, hv, hRd⟩ := ownR_rd (ownR_len hown (rowL_len _ _)) (pcnt_wf d h zs i zs.length (by omega))
      rw [rowL_len] at hv
      cases hv
      have HC := Lib.hid (H1.out _ (HR0.out.kept hb))
      have HRd := Lib.hid hRd
      have HB3 := Lib.hid hb
      clear hown hRd hb
      go_wp2_with fail
      refine HC.out.mono ?_
      rintro e w1 ⟨G, gc, rfl, hG, hb1⟩
      have HE := Lib.hid (equal_int_n G _ gc i i _ w1 (rowL_len _ _) hG (HRd.out.kept hb1) (by omega))
      have HB4 := Lib.hid (HB3.out.trans (hb1.mono HB3.out.size))
      clear hG hb1
      go_wp2_with fail
      refine HE.out.mono ?_
      rintro e w' ⟨rfl, q, rfl⟩
      go_wp2_with (go_at_call 25; refine (palive _).mono ?_; rintro e w4 ⟨rfl, hb4⟩)
      go_ret
      exact ⟨rfl, (below_drewN HB4.out _).trans (hb4.mono HB4.out.size)⟩
set_option maxRecDepth 100000 in
set_option maxHeartbeats 4000000 in
theorem walk_ok_o (A : Option Addr) (c : Nat) (zs : List Int) (d h : Int) (n : Nat) (w : World) (hl : zs.length ≤ 100) (hd : 1 ≤ d) (hh : 0 ≤ h) (hh' : h ≤ 9223372036854775807) (hr0 : h % d ≠ 0) (hn : manyP d h = n) (hn' : n ≤ 500) (hr : RdI w .i64 A zs) :
    Calls Try.prog 5 #[.slice A zs.length c, .int .i64 d, .int .i64 h] w fun e w' => e = .returned (.bool true) ∧ Below w.heap.size w w' := by
  obtain ⟨i0, hi, hz0, hz1, hz2⟩ := info_parts mkInfo
  have H1 := Lib.hid (fun w (hr : RdI w .i64 A zs) => pcount_ok A c zs d h n w hd hh hh' hn (by omega) hr (by omega))
  have HX := Lib.hid (fun (x : Int) (hx : 0 ≤ x) (hxh : x < h) => pos_lt hd hx hxh)
  rw [hn] at HX
  have HZ := Lib.hid (mkZeros n)
  have CB := Lib.hid (pcnt_bd d h zs)
  have HR0 := Lib.hid hr
  have WF : Hid (∀ i, i < zs.length → -9223372036854775808 ≤ zat zs i ∧ zat zs i ≤ 9223372036854775807) := Lib.hid fun i hi => by obtain ⟨_, _, _, _, hw⟩ := hr i hi; exact bounds_i64 hw
  have hz : (d == 0) = false := by rw [beq_eq_false_iff_ne]; omega
  obtain ⟨m, he, hm1, hm2⟩ := manyP_odd hd hh hh' hr0
  obtain ⟨q, hq⟩ : ∃ q : Int, (m : Int) = q := ⟨_, rfl⟩
  have q0 : 0 ≤ q := by omega
  rw [hq] at he hm2
  have hq1 : q + 1 = (n : Int) := by omega
  obtain ⟨r, hrr⟩ : ∃ r, h % d = r := ⟨_, rfl⟩
  have hr1 : 0 < r := by have := manyP_bd hd hh hh'; omega
  rw [hrr] at hr0
  clear hm1 hq
  clear hn hr
  go_enter Try.func5, Try.ntmps5
  go_wp2_with (at_make; refine wpList_make_full _ rfl _ _ 34 rfl w.heap.size 3 i0 (.int .i64 0) 1 Try.underlying34 hi hz0 hz1 _ _ _ _ n rfl rfl (by omega) (by omega) (by rw [hz2]; omega) (by unfold maxLen; omega) (Nat.le_refl _) ?_; intro w0 hown0 hgrow0)
  rw [HZ.out, ← pstg_start d h zs] at hown0
  have hb0 : Below w.heap.size w w0 := (Below.refl _ _).grown hgrow0 (Nat.le_refl _) (fun k h => by cases h)
  have HO : PRow d h zs n 0 0 w w0 := ⟨hown0, hb0⟩
  clear hgrow0 hown0 hb0 he hq1
  go_wp2_with fail
  go_loopg [13] n (fun g i wr => ∃ k : Nat, k ≤ n ∧ g = n - k ∧ i = .int .i64 k ∧ PRow d h zs n k 0 w wr)
  case atStart => exact ⟨0, by omega, rfl, rfl, HO⟩
  case round =>
    obtain ⟨i, hi1, rfl, rfl, hR⟩ := hrel
    by_cases hin : i < n
    · go_wp2_with fail
      go_loopg [14] zs.length (fun g j wi => ∃ k : Nat, k ≤ zs.length ∧ g = zs.length - k ∧ j = .int .i64 k ∧ PRow d h zs n i k w wi)
      case atStart => exact ⟨0, by omega, rfl, rfl, hR⟩
      case round =>
        obtain ⟨k, hk, rfl, rfl, hown, hb⟩ := hrel
        by_cases hkl : k < zs.length
        · obtain ⟨b, off, rfl, hlt, hc⟩ := rdI_row HR0.out (by omega)
          have c1 := (hb.cell (p := ⟨b, off + k, none⟩) hlt).trans (hc k hkl)
          have hw1 := WF.out k hkl
          by_cases hx0 : 0 ≤ zat zs k
          · by_cases hx1 : zat zs k < h
            · obtain ⟨y1, y2⟩ := HX.out _ hx0 hx1
              by_cases hji : i = (zat zs k / d).toNat
              · have c2 := ownR_cell hown hin
                rw [pstg_at] at c2
                have f2 := hown.frozenAt i
                have b1 := CB.out k i
                have S := Lib.hid (fun u (hu : u = pcnt d h zs k i + 1) => mkRow_put hown (show (rowL (pstg d h zs i k) n).set i u = rowL (pstg d h zs i (k + 1)) n by
                  rw [hu]; exact pstg_put ⟨hx0, hx1, hji⟩ n))
                rw [← hji] at y2
                obtain ⟨y, hy⟩ : ∃ y, pcnt d h zs k i = y := ⟨_, rfl⟩
                rw [hy] at c2 b1 S
                obtain ⟨x, hx⟩ : ∃ x, zat zs k = x := ⟨_, rfl⟩
                rw [hx] at c1 hx0 hx1 y2 hw1
                have HB3 := Lib.hid hb
                clear hc hy hx hown hb hji y1
                go_wp2_with fail
                go_roundg (zs.length - (k + 1))
                case measure => omega
                case rel => exact ⟨k + 1, by omega, rfl, by go_num, S.out _ rfl, HB3.out.setCell (Nat.le_refl _) _⟩
              · have E := Lib.hid (pstg_skip (d := d) (h := h) (zs := zs) (i := i) (k := k) (fun hc => hji hc.2.2) n)
                obtain ⟨j, hj⟩ : ∃ j, (zat zs k / d).toNat = j := ⟨_, rfl⟩
                rw [hj] at y1 y2 hji
                have hne : ((j : Int) == (i : Int)) = false := by rw [beq_eq_false_iff_ne]; omega
                obtain ⟨x, hx⟩ : ∃ x, zat zs k = x := ⟨_, rfl⟩
                rw [hx] at c1 hx0 hx1 y2 hw1
                clear hc hj hx hji
                go_wp2_with fail
                go_roundg (zs.length - (k + 1))
                case measure => omega
                case rel => exact ⟨k + 1, by omega, rfl, by go_num, by rw [E.out]; exact hown, hb⟩
            · have E := Lib.hid (pstg_skip (d := d) (h := h) (zs := zs) (i := i) (k := k) (fun hc => hx1 hc.2.1) n)
              obtain ⟨x, hx⟩ : ∃ x, zat zs k = x := ⟨_, rfl⟩
              rw [hx] at c1 hx0 hx1 hw1
              clear hc hx
              go_wp2_with fail
              go_roundg (zs.length - (k + 1))
              case measure => omega
              case rel => exact ⟨k + 1, by omega, rfl, by go_num, by rw [E.out]; exact hown, hb⟩
          · have E := Lib.hid (pstg_skip (d := d) (h := h) (zs := zs) (i := i) (k := k) (fun hc => hx0 hc.1) n)
            obtain ⟨x, hx⟩ : ∃ x, zat zs k = x := ⟨_, rfl⟩
            rw [hx] at c1 hx0 hw1
            clear hc hx
            go_wp2_with fail
            go_roundg (zs.length - (k + 1))
            case measure => omega
            case rel => exact ⟨k + 1, by omega, rfl, by go_num, by rw [E.out]; exact hown, hb⟩
        · obtain rfl : k = zs.length := by omega
          go_wp2_with fail
          go_roundg (n - (i + 1))
          case measure => omega
          case rel => exact ⟨i + 1, by omega, rfl, by go_num, by rw [← pstg_next]; exact hown, hb⟩
    · obtain rfl : i = n := by omega
      obtain ⟨hown, hb⟩ := hR
      rw [pstg_end] at hown
      obtain ⟨B, cc, hv, hRd⟩ := ownR_rd (ownR_len hown (rowL_len _ _)) (pcnt_wf d h zs i zs.length (by omega))
      rw [rowL_len] at hv
      cases hv
      have HC := Lib.hid (H1.out _ (HR0.out.kept hb))
      have HRd := Lib.hid hRd
      have HB3 := Lib.hid hb
      clear hown hRd hb
      go_wp2_with fail
      refine HC.out.mono ?_
      rintro e w1 ⟨G, gc, rfl, hG, hb1⟩
      have HE := Lib.hid (equal_int_n G _ gc i i _ w1 (rowL_len _ _) hG (HRd.out.kept hb1) (by omega))
      have HB4 := Lib.hid (HB3.out.trans (hb1.mono HB3.out.size))
      clear hG hb1
      go_wp2_with fail
      refine HE.out.mono ?_
      rintro e w' ⟨rfl, q, rfl⟩
      go_wp2_with (go_at_call 25; refine (palive _).mono ?_; rintro e w4 ⟨rfl, hb4⟩)
      go_ret
      exact ⟨rfl, (below_drewN HB4.out _).trans (hb4.mono HB4.out.size)⟩
theorem walk {w : World} {a1 a2 : Int} {A : Option Addr} {c : Nat} {zs : List Int} (hl : zs.length ≤ c) (hm : c ≤ maxLen) (hr : RdI w .i64 A zs) (h1 : (Lit.int .i64 a1).wf = true) (h2 : (Lit.int .i64 a2).wf = true) :
    Calls Try.prog 5 #[.slice A zs.length c, .int .i64 a1, .int .i64 a2] w fun e w' => e = .returned (.bool true) ∧ Below w.heap.size w w' := by
  have b2 := (bounds_i64 h2).2
  rcases Nat.lt_or_ge 100 zs.length with g | g
  · exact walk_big A _ c a1 a2 w g
  · by_cases hb : a1 < 1 ∨ a2 < 0
    · exact walk_bad A _ c a1 a2 w g hb
    · have d1 : 1 ≤ a1 := by omega
      have d2 : 0 ≤ a2 := by omega
      rcases Nat.lt_or_ge 65536 (manyP a1 a2) with g1 | g1
      · exact walk_size A _ c a1 a2 w g d1 d2 b2 g1
      · rcases Nat.lt_or_ge 500 (manyP a1 a2) with g2 | g2
        · exact walk_mid A _ c a1 a2 _ w g d1 d2 b2 rfl g1 g2
        · by_cases h0 : a2 % a1 = 0
          · exact walk_ok_e A c zs a1 a2 _ w g d1 d2 b2 h0 rfl g2 hr
          · exact walk_ok_o A c zs a1 a2 _ w g d1 d2 b2 h0 rfl g2 hr

end Go.Proofs.Ytmdjncknjbjmbaa.pulseCounts
