/- Contracts of pulse.Sums and pulse.Peak. -/
import Derived.Test.YtmdjncknjbjmbaaRows
import Derived.Test.YtmdjncknjbjmbaaRowKit
import Derived.Test.YtmdjncknjbjmbaaSlicesEq
import Derived.Test.YtmdjncknjbjmbaaSlicesEqM
import Derived.Test.YtmdjncknjbjmbaaRowL
import Derived.Test.YtmdjncknjbjmbaaMakeI
import Derived.Test.YtmdjncknjbjmbaaPulseMath
import Derived.WalkKit
import Derived.IntWalk
import Derived.Lib.Hide
import Derived.WalkSpells
import Derived.WalkLawsBesides
import Derived.Laws.CopyOwn
import Derived.Laws.MakeOwn
import Derived.Laws.OwnMore
import Derived.OwnWalk
import Derived.Deep.QuietTactic
import Derived.Deep.LoopGhost
import Derived.BigQuiet
namespace Go.Proofs.Ytmdjncknjbjmbaa
open Go.RowKit
set_option linter.unusedSimpArgs false
set_option linter.unusedVariables false
theorem pvint {k : IntKind} {a b : Int} (h : a = b) : Value.int k a = .int k b := by rw [h]
set_option maxHeartbeats 1000000 in
theorem sums_none (A : Option Addr) (m c : Nat) (k : Int) (w : World) (hm : m ≤ 1000) (hb : k < 1 ∨ (m : Int) < k) :
    Calls Try.prog 28 #[.slice A m c, .int .i64 k] w fun e w' => e = .returned (.slice none 0 0) ∧ w = w' := by
  rcases (show k < 1 ∨ (¬ k < 1 ∧ (m : Int) < k) by omega) with h1 | ⟨h1, h2⟩
  all_goals (
    clear hb
    go_enter Try.func28, Try.ntmps28
    go_wp2_with fail
    go_ret
    exact ⟨rfl, rfl⟩)
/-- the loop's relation -/
def SRow (zs : List Int) (k i : Nat) (s v : Value) (w wr : World) : Prop := s = .int .i64 (slid zs k i) ∧ wr.ownsRow w.heap.size 3 1 v (i + 1 - k) ((rowL (winS zs k) (i + 1 - k)).map (Value.int .i64)) ∧ Below w.heap.size w wr
theorem srow_push {zs : List Int} {k i m : Nat} {w wr : World} {v : Value} {x : Int} (hk : 1 ≤ k) (hm : i + 1 - k = m) (hik : k ≤ i + 1) (hx : x = slid zs k (i + 1)) (h : wr.ownsRow w.heap.size 3 1 v (m + 1) ((rowL (winS zs k) m).map (Value.int .i64) ++ [.int .i64 x])) (hb : Below w.heap.size w wr) : SRow zs k (i + 1) (.int .i64 x) v w wr := by
  refine ⟨by rw [hx], ?_, hb⟩
  rw [show i + 1 + 1 - k = m + 1 by omega, rowL_succ, List.map_append]
  have e : x = winS zs k m := by rw [hx]; unfold winS; rw [show m + k = i + 1 by omega]
  rw [e] at h
  exact h
set_option maxRecDepth 100000 in
set_option maxHeartbeats 2000000 in
theorem sums_ok (A : Option Addr) (c : Nat) (zs : List Int) (k n : Nat) (w : World) (hk : 1 ≤ k) (hn : zs.length + 1 = n + k) (hn0 : 0 < n) (hr : RdI w .i64 A zs) (hl : zs.length ≤ 1000) :
    Calls Try.prog 28 #[.slice A zs.length c, .int .i64 k] w (MadeS n (rowL (winS zs k) n) w) := by
  obtain ⟨i0, hi, hz0, hz1, hz2⟩ := info_parts mkInfo
  obtain ⟨b, off, rfl, hlt, hc⟩ := rdI_row hr (by omega)
  have HC := Lib.hid hc
  have WF : Hid (∀ i, i < zs.length → -9223372036854775808 ≤ zat zs i ∧ zat zs i ≤ 9223372036854775807) := Lib.hid fun i hi => by obtain ⟨_, _, _, _, hw⟩ := hr i hi; exact bounds_i64 hw
  have HN := Lib.hid hn
  have hkl : (k : Int) ≤ zs.length := by omega
  have hnI : (zs.length : Int) - k + 1 = n := by omega
  clear hr hc hn
  go_enter Try.func28, Try.ntmps28
  go_wp2_with (at_make; refine wpList_make_own _ rfl _ _ 34 rfl w.heap.size 3 i0 (.int .i64 0) 1 Try.underlying34 hi hz0 hz1 _ _ _ n rfl rfl (by omega) (by rw [hz2]; omega) (by unfold maxLen; omega) (Nat.le_refl _) ?_; intro w0 hown0 hgrow0)
  have hb0 : Below w.heap.size w w0 := (Below.refl _ _).grown hgrow0 (Nat.le_refl _) (fun k h => by cases h)
  have HS : SRow zs k 0 (.int .i64 0) (.slice (some ⟨w.heap.size, 0, none⟩) 0 n) w w0 := by
    refine ⟨by rw [slid_zero], ?_, hb0⟩
    rw [show 0 + 1 - k = 0 by omega]; exact hown0
  clear hgrow0 hown0 hb0
  go_wp2_with fail
  go_loopw [5, 6, 25] (fun v s i wr => ∃ j : Nat, j ≤ zs.length ∧ i = .int .i64 j ∧ SRow zs k j s v w wr) (fun _ _ i _ => zs.length - (intOf i).toNat)
  case atStart => exact ⟨0, by omega, rfl, HS⟩
  case round =>
    obtain ⟨j, hj, rfl, rfl, hown, hb⟩ := hrel
    by_cases hjl : j < zs.length
    · have c1 := (hb.cell (p := ⟨b, off + j, none⟩) hlt).trans (HC.out j hjl)
      have hw1 := WF.out j hjl
      have sb : -9223372036854775808 ≤ slid zs k j ∧ slid zs k j ≤ 9223372036854775807 := w64_bd _
      obtain ⟨vA, vc, hv⟩ := mkSlice hown
      subst hv
      by_cases h1 : j + 1 < k
      · have E := Lib.hid (slid_in (zs := zs) (show j < k by omega))
        have hm0 : j + 1 + 1 - k = j + 1 - k := by omega
        have M0 := Lib.hid hm0
        obtain ⟨s, hs⟩ : ∃ s, slid zs k j = s := ⟨_, rfl⟩
        obtain ⟨x, hx⟩ : ∃ x, zat zs j = x := ⟨_, rfl⟩
        rw [hs] at E sb
        rw [hx] at E c1 hw1
        rw [hs]
        have k1 : (j : Int) < k := by omega
        have k2 : ¬ (k : Int) ≤ j := by omega
        have k3 : ¬ (k : Int) - 1 ≤ j := by omega
        clear hs hx hm0
        go_wp2_with fail
        go_roundw
        case rel => exact ⟨j + 1, by omega, by go_num, pvint (by rw [E.out]), by rw [M0.out]; exact hown, hb⟩
        case measure => simp [intOf]; omega
      · have k0 : k ≤ j + 1 := by omega
        obtain ⟨m, hm⟩ : ∃ m, j + 1 - k = m := ⟨_, rfl⟩
        rw [hm] at hown ⊢
        have M := Lib.hid hm
        have hmn : m ≤ 1000 := by omega
        have k3 : (k : Int) - 1 ≤ j := by omega
        by_cases h2 : j < k
        · have E := Lib.hid (slid_in (zs := zs) h2)
          obtain ⟨s, hs⟩ : ∃ s, slid zs k j = s := ⟨_, rfl⟩
          obtain ⟨x, hx⟩ : ∃ x, zat zs j = x := ⟨_, rfl⟩
          rw [hs] at E sb
          rw [hx] at E c1 hw1
          rw [hs]
          have k2 : ¬ (k : Int) ≤ j := by omega
          clear hs hx hm
          go_wp2_with (at_builtin; refine wpList_append_own _ rfl _ _ 34 rfl w.heap.size 3 i0 (.int .i64 0) 1 8 Try.underlying34 hi hz0 hz1 hz2 rfl (by decide) _ _ _ rfl (hown.alloc _) ⟨_, 0, none⟩ 1 1 [.int .i64 _] rfl rfl one_newR (by intro u hu; simp at hu; subst hu; rfl) (by unfold maxLen; omega) (by omega) (by have := hb.size; simp; omega) ?_; intro v' w1 hown' hgrow _)
          have hb1 : Below w.heap.size w w1 := by
            refine (hb.alloc hb.size _).grown hgrow (by have := hb.size; simp; omega) (fun g hg => ?_)
            first | exact ownR_ge hown hg | exact ownR_ge hown hg.symm
          have HR : SRow zs k (j + 1) _ v' w w1 := srow_push hk M.out k0 (by rw [E.out]) hown' hb1
          clear hown' hgrow
          go_wp2_with fail
          go_roundw
          case rel => exact ⟨j + 1, by omega, by go_num, HR⟩
          case measure => simp [intOf]; omega
        · have h2' : k ≤ j := by omega
          have E := Lib.hid (slid_on (zs := zs) hk h2')
          have c2 := (hb.cell (p := ⟨b, off + (j - k), none⟩) hlt).trans (HC.out (j - k) (by omega))
          have hw2 := WF.out (j - k) (by omega)
          obtain ⟨t, ht⟩ : ∃ t, j - k = t := ⟨_, rfl⟩
          rw [ht] at E c2 hw2
          obtain ⟨s, hs⟩ : ∃ s, slid zs k j = s := ⟨_, rfl⟩
          obtain ⟨x, hx⟩ : ∃ x, zat zs j = x := ⟨_, rfl⟩
          obtain ⟨y, hy⟩ : ∃ y, zat zs t = y := ⟨_, rfl⟩
          rw [hs] at E sb
          rw [hx] at E c1 hw1
          rw [hy] at E c2 hw2
          rw [hs]
          have k2 : (k : Int) ≤ j := by omega
          have ht2 : (j : Int) - k = (t : Nat) := by omega
          have ht3 : t < zs.length := by omega
          clear hs hx hy hm ht
          go_wp2_with (at_builtin; refine wpList_append_own _ rfl _ _ 34 rfl w.heap.size 3 i0 (.int .i64 0) 1 8 Try.underlying34 hi hz0 hz1 hz2 rfl (by decide) _ _ _ rfl (hown.alloc _) ⟨_, 0, none⟩ 1 1 [.int .i64 _] rfl rfl one_newR (by intro u hu; simp at hu; subst hu; rfl) (by unfold maxLen; omega) (by omega) (by have := hb.size; simp; omega) ?_; intro v' w1 hown' hgrow _)
          have hb1 : Below w.heap.size w w1 := by
            refine (hb.alloc hb.size _).grown hgrow (by have := hb.size; simp; omega) (fun g hg => ?_)
            first | exact ownR_ge hown hg | exact ownR_ge hown hg.symm
          have HR : SRow zs k (j + 1) _ v' w w1 := srow_push hk M.out k0 (by rw [E.out]) hown' hb1
          clear hown' hgrow
          go_wp2_with fail
          go_roundw
          case rel => exact ⟨j + 1, by omega, by go_num, HR⟩
          case measure => simp [intOf]; omega
    · obtain rfl : j = zs.length := by omega
      rw [show zs.length + 1 - k = n by have := HN.out; omega] at hown
      obtain ⟨B, cc, hv, hR⟩ := ownR_rd (ownR_len hown (rowL_len _ _)) (winS_wf zs k n)
      rw [rowL_len] at hv
      subst hv
      go_wp2_with fail
      go_ret
      exact ⟨_, _, rfl, hR, hb⟩
set_option maxHeartbeats 1000000 in
theorem peak_none (A : Option Addr) (m c : Nat) (k : Int) (w : World) (hm : m ≤ 1000) (hb : k < 1 ∨ (m : Int) < k) :
    Calls Try.prog 27 #[.slice A m c, .int .i64 k] w fun e w' => e = .returned (.tuple #[.int .i64 0, .int .i64 0, .bool false]) ∧ w = w' := by
  have H := Lib.hid (fun w => sums_none A m c k w hm hb)
  clear hb
  go_enter Try.func27, Try.ntmps27
  go_wp2_with (go_at_call 28; refine (H.out _).mono ?_; rintro e w' ⟨rfl, rfl⟩)
  go_ret3
  exact ⟨rfl, rfl⟩
/-- the first of the greatest sums is answered -/
def PeakR (zs : List Int) (k n : Nat) (w : World) (e : Ending) (w' : World) : Prop := ∃ p : Nat, e = .returned (.tuple #[.int .i64 p, .int .i64 (winS zs k p), .bool true]) ∧ PeakAt (winS zs k) n p ∧ Below w.heap.size w w'
set_option maxRecDepth 100000 in
set_option maxHeartbeats 2000000 in
theorem peak_ok (A : Option Addr) (c : Nat) (zs : List Int) (k n : Nat) (w : World) (hk : 1 ≤ k) (hn : zs.length + 1 = n + k) (hn0 : 0 < n) (hr : RdI w .i64 A zs) (hl : zs.length ≤ 1000) :
    Calls Try.prog 27 #[.slice A zs.length c, .int .i64 k] w (PeakR zs k n w) := by
  have H := Lib.hid (sums_ok A c zs k n w hk hn hn0 hr hl)
  have hn9 : n ≤ 1000 := by omega
  have WB := Lib.hid (winS_bd zs k)
  clear hr hn
  go_enter Try.func27, Try.ntmps27
  go_wp2_with fail
  refine H.out.mono ?_
  rintro e w1 ⟨G, gc, rfl, hG, hb1⟩
  obtain ⟨b, off, rfl, hlt, hc⟩ := rdI_row hG (by rw [rowL_len]; omega)
  have HC : Hid (∀ i, i < n → w1.cell? ⟨b, off + i, none⟩ = some (.int .i64 (winS zs k i))) := Lib.hid fun i hi => by
    have := hc i (by rw [rowL_len]; exact hi)
    rw [rowL_at _ hi] at this
    exact this
  clear hG hc
  go_wp2_with fail
  go_loop [8, 19] (fun p i => ∃ j q : Nat, j ≤ n ∧ i = .int .i64 j ∧ p = .int .i64 q ∧ q < n ∧ Hid (j = 0 → q = 0) ∧ Hid (0 < j → PeakAt (winS zs k) j q)) (fun _ i => n - (intOf i).toNat)
  case atStart => exact ⟨0, 0, by omega, rfl, rfl, hn0, Lib.hid fun _ => rfl, Lib.hid fun h => absurd h (by omega)⟩
  case round =>
    obtain ⟨j, q, hj, rfl, rfl, hq, H0, H1⟩ := hrel
    by_cases hjl : j < n
    · have c1 := HC.out j hjl
      have c2 := HC.out q hq
      have w1' := WB.out j
      have w2' := WB.out q
      by_cases hg : winS zs k q < winS zs k j
      · have HP : Hid (PeakAt (winS zs k) (j + 1) j) := Lib.hid (by
          rcases Nat.eq_zero_or_pos j with e | e
          · subst e; exact peak_one _
          · exact peak_up (H1.out e) hg)
        obtain ⟨x, hx⟩ : ∃ x, winS zs k j = x := ⟨_, rfl⟩
        obtain ⟨y, hy⟩ : ∃ y, winS zs k q = y := ⟨_, rfl⟩
        rw [hx] at c1 w1' hg
        rw [hy] at c2 w2' hg
        clear hx hy
        go_wp2_with fail
        go_round
        case rel => exact ⟨j + 1, j, by omega, by go_num, rfl, hjl, Lib.hid fun h => by omega, Lib.hid fun _ => HP.out⟩
        case measure => simp [intOf]; omega
      · have HP : Hid (PeakAt (winS zs k) (j + 1) q) := Lib.hid (by
          rcases Nat.eq_zero_or_pos j with e | e
          · subst e; rw [H0.out rfl]; exact peak_one _
          · exact peak_on (H1.out e) hg)
        obtain ⟨x, hx⟩ : ∃ x, winS zs k j = x := ⟨_, rfl⟩
        obtain ⟨y, hy⟩ : ∃ y, winS zs k q = y := ⟨_, rfl⟩
        rw [hx] at c1 w1' hg
        rw [hy] at c2 w2' hg
        have hg2 : x ≤ y := by omega
        clear hx hy
        go_wp2_with fail
        go_round
        case rel => exact ⟨j + 1, q, by omega, by go_num, rfl, hq, Lib.hid fun h => by omega, Lib.hid fun _ => HP.out⟩
        case measure => simp [intOf]; omega
    · obtain rfl : j = n := by omega
      have c2 := HC.out q hq
      have HP := H1.out hn0
      have HPh := Lib.hid HP
      clear HP
      go_wp2_with fail
      go_quiet (fail)
      go_wp2_with fail
      go_ret3
      exact ⟨q, rfl, HPh.out, below_drewN hb1 _⟩
end Go.Proofs.Ytmdjncknjbjmbaa
