/- The walk of PulsePeaks: it answers true for every input, and leaves all old blocks as they were. No condition. -/
import Derived.Test.YtmdjncknjbjmbaaRows
import Derived.Test.YtmdjncknjbjmbaaRowKit
import Derived.Test.YtmdjncknjbjmbaaSlicesEq
import Derived.Test.YtmdjncknjbjmbaaSlicesEqM
import Derived.Test.YtmdjncknjbjmbaaRowL
import Derived.Test.YtmdjncknjbjmbaaMakeI
import Derived.Test.YtmdjncknjbjmbaaPulseMath
import Derived.Test.YtmdjncknjbjmbaaPulseA
import Derived.Test.YtmdjncknjbjmbaaPulseB
import Derived.Test.YtmdjncknjbjmbaaPulseC
import Derived.WalkKit
import Derived.ProofKit
import Derived.OpenShut
import Derived.Deep.QuietTactic
import Derived.BigQuiet
import Derived.Lib.SmallJoins
import Derived.Lib.Hide
import Derived.WalkSpells
import Derived.WalkLawsBesides
import Derived.IntWalk
import Derived.OwnWalk
import Derived.Laws.CopyOwn
import Derived.Laws.MakeOwn
import Derived.Laws.OwnMore
import Derived.Deep.LoopGhost
namespace Go.Proofs.Ytmdjncknjbjmbaa.pulsePeaks
open Go.ChangeShapes Go.WideShapes Go.ChangeAt Go.RowKit Go.Joins
set_option linter.unusedSimpArgs false
set_option linter.unusedVariables false

set_option maxHeartbeats 1000000 in
theorem walk_big (A : Option Addr) (m c : Nat) (k : Int) (w : World) (hm : 100 < m) :
    Calls Try.prog 6 #[.slice A m c, .int .i64 k] w fun e w' => e = .returned (.bool true) ∧ Below w.heap.size w w' := by
  go_enter Try.func6, Try.ntmps6
  go_wp2_with fail
  go_ret
  exact ⟨rfl, Below.refl _ _⟩
set_option maxHeartbeats 1000000 in
theorem walk_none (A : Option Addr) (m c : Nat) (k : Int) (w : World) (hm : m ≤ 100) (hb : k < 1 ∨ (m : Int) < k) :
    Calls Try.prog 6 #[.slice A m c, .int .i64 k] w fun e w' => e = .returned (.bool true) ∧ Below w.heap.size w w' := by
  have H1 := Lib.hid (fun w => sums_none A m c k w (by omega) hb)
  have H2 := Lib.hid (fun w => peak_none A m c k w (by omega) hb)
  rcases (show k < 1 ∨ (¬ k < 1 ∧ (m : Int) < k) by omega) with h1 | ⟨h1, h2⟩
  all_goals (
    clear hb
    go_enter Try.func6, Try.ntmps6
    go_wp2_with fail
    go_loopg [5, 6] 0 (fun g v i wr => w = wr ∧ i = .int .i64 0 ∧ v = .slice none 0 0)
    case atStart => exact ⟨rfl, rfl, rfl⟩
    case round =>
      obtain ⟨rfl, rfl, rfl⟩ := hrel
      go_wp2_with (first
        | (go_at_call 28; refine (H1.out _).mono ?_; rintro e w' ⟨rfl, rfl⟩)
        | (go_at_call 27; refine (H2.out _).mono ?_; rintro e w' ⟨rfl, rfl⟩)
        | (go_at_call 26; refine (equal_int_0 _ _ _ _ _).mono ?_; rintro e w' ⟨rfl, q, rfl⟩)
        | (go_at_call 25; refine (palive _).mono ?_; rintro e w1 ⟨rfl, hb⟩))
      go_ret
      exact ⟨rfl, (below_drewN (Below.refl _ _) _).trans hb⟩)
/-- the row of what is wanted -/
def WRow (zs : List Int) (k i : Nat) (v : Value) (w wr : World) : Prop := wr.ownsRow w.heap.size 3 1 v i ((rowL (winS zs k) i).map (Value.int .i64)) ∧ Below w.heap.size w wr
set_option maxRecDepth 100000 in
set_option maxHeartbeats 8000000 in
theorem walk_ok (A : Option Addr) (c : Nat) (zs : List Int) (k n : Nat) (w : World) (hk : 1 ≤ k) (hn : zs.length + 1 = n + k) (hn0 : 0 < n) (hr : RdI w .i64 A zs) (hl : zs.length ≤ 100) :
    Calls Try.prog 6 #[.slice A zs.length c, .int .i64 k] w fun e w' => e = .returned (.bool true) ∧ Below w.heap.size w w' := by
  obtain ⟨i0, hi, hz0, hz1, hz2⟩ := info_parts mkInfo
  have H1 := Lib.hid (fun w (hr : RdI w .i64 A zs) => sums_ok A c zs k n w hk hn hn0 hr (by omega))
  have H2 := Lib.hid (fun w (hr : RdI w .i64 A zs) => peak_ok A c zs k n w hk hn hn0 hr (by omega))
  have WB := Lib.hid (winS_bd zs k)
  have HR0 := Lib.hid hr
  obtain ⟨b, off, rfl, hlt, hc⟩ := rdI_row hr (by omega)
  have HC := Lib.hid hc
  have WF : Hid (∀ i, i < zs.length → -9223372036854775808 ≤ zat zs i ∧ zat zs i ≤ 9223372036854775807) := Lib.hid fun i hi => by obtain ⟨_, _, _, _, hw⟩ := hr i hi; exact bounds_i64 hw
  have HN := Lib.hid hn
  clear hr hc hn
  go_enter Try.func6, Try.ntmps6
  go_wp2_with fail
  go_loopg [5, 6] n (fun g v i wr => ∃ j : Nat, j ≤ n ∧ g = n - j ∧ i = .int .i64 j ∧ WRow zs k j v w wr)
  case atStart => exact ⟨0, by omega, rfl, rfl, World.ownsRow_nil _ _ _ _, Below.refl _ _⟩
  case round =>
    obtain ⟨j, hj, rfl, rfl, hown, hb⟩ := hrel
    obtain ⟨vA, vc, hv⟩ := mkSlice hown
    subst hv
    have g0 : (j : Int) ≤ zs.length := by have := HN.out; omega
    by_cases hjn : j < n
    · have g1 : (k : Int) ≤ (zs.length : Int) - j := by have := HN.out; omega
      have W0 := Lib.hid (wsum_zero zs j)
      go_wp2_with fail
      go_loopg [7, 8] k (fun g s i wi => wr = wi ∧ ∃ m : Nat, m ≤ k ∧ g = k - m ∧ i = .int .i64 m ∧ s = .int .i64 (wsum zs j m))
      case atStart => exact ⟨rfl, 0, by omega, rfl, rfl, pvint (by rw [W0.out])⟩
      case round =>
        obtain ⟨rfl, m, hm, rfl, rfl, rfl⟩ := hrel
        by_cases hmk : m < k
        · have c1 := (hb.cell (p := ⟨b, off + (j + m), none⟩) hlt).trans (HC.out (j + m) (by have := HN.out; omega))
          have hw1 := WF.out (j + m) (by have := HN.out; omega)
          have sb : -9223372036854775808 ≤ wsum zs j m ∧ wsum zs j m ≤ 9223372036854775807 := w64_bd _
          have E := Lib.hid (wsum_succ zs j m)
          obtain ⟨t, ht⟩ : ∃ t, j + m = t := ⟨_, rfl⟩
          have ht2 : (j : Int) + m = (t : Nat) := by omega
          have ht3 : t < zs.length := by have := HN.out; omega
          rw [ht] at c1 hw1 E
          obtain ⟨x, hx⟩ : ∃ x, zat zs t = x := ⟨_, rfl⟩
          obtain ⟨s, hs⟩ : ∃ s, wsum zs j m = s := ⟨_, rfl⟩
          rw [hx] at c1 hw1 E
          rw [hs] at sb E
          rw [hs]
          clear hx hs ht
          go_wp2_with fail
          go_roundg (k - (m + 1))
          case measure => omega
          case rel => exact ⟨rfl, m + 1, by omega, rfl, by go_num, pvint (by rw [E.out])⟩
        · obtain rfl : m = k := by omega
          have E := Lib.hid (wsum_win zs j m)
          obtain ⟨s, hs⟩ : ∃ s, wsum zs j m = s := ⟨_, rfl⟩
          rw [hs] at E
          rw [hs]
          clear hs
          go_wp2_with (at_builtin; refine wpList_append_own _ rfl _ _ 34 rfl w.heap.size 3 i0 (.int .i64 0) 1 8 Try.underlying34 hi hz0 hz1 hz2 rfl (by decide) _ _ _ rfl (hown.alloc _) ⟨_, 0, none⟩ 1 1 [.int .i64 _] rfl rfl one_newR (by intro u hu; simp at hu; subst hu; rfl) (by unfold maxLen; omega) (by omega) (by have := hb.size; simp; omega) ?_; intro v' w1 hown' hgrow _)
          have hb1 : Below w.heap.size w w1 := by
            refine (hb.alloc hb.size _).grown hgrow (by have := hb.size; simp; omega) (fun g hg => ?_)
            first | exact ownR_ge hown hg | exact ownR_ge hown hg.symm
          have HW : WRow zs m (j + 1) v' w w1 := ⟨by rw [rowL_succ, List.map_append, ← E.out]; exact hown', hb1⟩
          clear hown' hgrow
          go_wp2_with fail
          go_roundg (n - (j + 1))
          case measure => omega
          case rel => exact ⟨j + 1, by omega, rfl, by go_num, HW⟩
    · obtain rfl : j = n := by omega
      have g1 : (zs.length : Int) - j < k := by have := HN.out; omega
      obtain ⟨B, cc, hv, hR⟩ := ownR_rd (ownR_len hown (rowL_len _ _)) (winS_wf zs k j)
      rw [rowL_len] at hv
      cases hv
      have HP := Lib.hid (H2.out _ (HR0.out.kept hb))
      have HRd := Lib.hid hR
      have HB := Lib.hid hb
      clear hown hR hb
      go_wp2_with fail
      refine HP.out.mono ?_
      rintro e w2 ⟨p, rfl, hp, hb2⟩
      have HS := Lib.hid (H1.out w2 ((HR0.out.kept HB.out).kept hb2))
      have HRd2 := Lib.hid (HRd.out.kept hb2)
      have HB2 := Lib.hid (HB.out.trans (hb2.mono HB.out.size))
      have HPk := Lib.hid hp
      have hp1 := hp.1
      clear hb2 hp
      go_wp2_with fail
      refine HS.out.mono ?_
      rintro e w3 ⟨G, gc, rfl, hG, hb3⟩
      have HRd3 := Lib.hid (HRd2.out.kept hb3)
      have HB3 := Lib.hid (HB2.out.trans (hb3.mono HB2.out.size))
      have HE := Lib.hid (fun B d (hB : RdI w3 .i64 B (rowL (winS zs k) j)) => equal_int_n G B gc d j _ w3 (rowL_len _ _) hG hB (by omega))
      clear hG hb3
      go_wp2_with fail
      refine (HE.out _ _ HRd3.out).mono ?_
      rintro e w4 ⟨rfl, q, rfl⟩
      obtain ⟨gb, go, e0, hgl, hgc⟩ := rdI_row HRd3.out (by rw [rowL_len]; omega)
      subst e0
      have HG : Hid (∀ i, i < j → w3.cell? ⟨gb, go + i, none⟩ = some (.int .i64 (winS zs k i))) := Lib.hid fun i hi => by
        have := hgc i (by rw [rowL_len]; exact hi)
        rw [rowL_at _ hi] at this
        exact this
      have c3 := HG.out p hp1
      have hp2 : ¬ j ≤ p := by omega
      have hp3 : (p : Int) < j := by omega
      have PK := Lib.hid HPk.out.2
      have wp := WB.out p
      obtain ⟨y, hy⟩ : ∃ y, winS zs k p = y := ⟨_, rfl⟩
      rw [hy] at c3 PK wp
      rw [hy]
      clear hgc hy
      go_wp2_with fail
      go_loopg [12] j (fun g i wr => ∃ t q : Nat, t ≤ j ∧ g = j - t ∧ i = .int .i64 t ∧ wr = w3.drewN q)
      case atStart => exact ⟨0, _, by omega, rfl, rfl, rfl⟩
      case round =>
        obtain ⟨t, q2, ht, rfl, rfl, rfl⟩ := hrel
        by_cases htj : t < j
        · have c4 := HG.out t htj
          have wt := WB.out t
          have le1 := PK.out.1 t htj
          have lt1 := PK.out.2 t
          obtain ⟨x, hx⟩ : ∃ x, winS zs k t = x := ⟨_, rfl⟩
          rw [hx] at c4 wt le1 lt1
          clear hx
          by_cases htp : t < p
          · have lt2 := lt1 htp
            have hne : (x == y) = false := by rw [beq_eq_false_iff_ne]; omega
            have htp' : (t : Int) < p := by omega
            clear lt1
            go_wp2_with fail
            go_roundg (j - (t + 1))
            case measure => omega
            case rel => exact ⟨t + 1, q2, by omega, rfl, by go_num, rfl⟩
          · have htp' : ¬ (t : Int) < p := by omega
            clear lt1
            go_wp2_with fail
            go_roundg (j - (t + 1))
            case measure => omega
            case rel => exact ⟨t + 1, q2, by omega, rfl, by go_num, rfl⟩
        · obtain rfl : t = j := by omega
          go_wp2_with (go_at_call 25; refine (palive _).mono ?_; rintro e w5 ⟨rfl, hb5⟩)
          go_ret
          exact ⟨rfl, (below_drewN HB3.out _).trans (hb5.mono HB3.out.size)⟩
theorem walk {w : World} {a1 : Int} {A : Option Addr} {c : Nat} {zs : List Int} (hl : zs.length ≤ c) (hm : c ≤ maxLen) (hr : RdI w .i64 A zs) (h1 : (Lit.int .i64 a1).wf = true) :
    Calls Try.prog 6 #[.slice A zs.length c, .int .i64 a1] w fun e w' => e = .returned (.bool true) ∧ Below w.heap.size w w' := by
  rcases Nat.lt_or_ge 100 zs.length with g | g
  · exact walk_big A _ c a1 w g
  · by_cases hb : a1 < 1 ∨ (zs.length : Int) < a1
    · exact walk_none A _ c a1 w g hb
    · obtain ⟨k, rfl⟩ : ∃ k : Nat, a1 = k := ⟨a1.toNat, by omega⟩
      exact walk_ok A c zs k (zs.length + 1 - k) w (by omega) (by omega) (by omega) hr g

end Go.Proofs.Ytmdjncknjbjmbaa.pulsePeaks
