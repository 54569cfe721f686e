/- A thing more by both readers: the answers are alike. -/
import Derived.Test.YtnjdeikikdieoabPackE
import Derived.Test.YtnjdeikikdieoabPackRM
import Derived.Test.YtnjdeikikdieoabPackRA
import Derived.Test.YtnjdeikikdieoabBlocks
import Derived.Test.YtnjdeikikdieoabPackRB
import Derived.Test.YtnjdeikikdieoabPackRC
import Derived.WalkKit
import Derived.Deep.QuietTactic
import Derived.Lib.Hide
import Derived.Lib.SmallJoins
import Derived.WalkSpells
import Derived.WalkLawsBesides
import Derived.IntWalk
namespace Go.Proofs.Ytnjdeikikdieoab
open Go.RowKit
set_option linter.unusedVariables false
set_option linter.unusedSimpArgs false
set_option maxHeartbeats 1000000 in
theorem dunfold_any (u : Nat) (w : World) (h : u < 18446744073709551616) :
    Calls Try.prog 45 #[.int .u64 u] w fun e w' => e = .returned (.int .i64 (unfoldI u)) ∧ w = w' := by
  obtain ⟨q, hq⟩ : ∃ q, u / 2 = q := ⟨_, rfl⟩
  have t2 : (u : Int).tdiv 2 = (q : Int) := by rw [Int.tdiv_eq_ediv_of_nonneg (by omega)]; omega
  have w1 : IntKind.u64.wrap (q : Int) = q := by rw [IntKind.wrap_u64]; omega
  have w2 : IntKind.i64.wrap (q : Int) = q := IntWalk.i64_in _ (by omega)
  have w3 : IntKind.i64.wrap (-(q : Int)) = -(q : Int) := IntWalk.i64_in _ (by omega)
  have w4 : IntKind.i64.wrap (-(q : Int) - 1) = -(q : Int) - 1 := IntWalk.i64_in _ (by omega)
  unfold unfoldI
  have e1 : (u : Int) / 2 = q := by omega
  rw [e1]
  by_cases h1 : u % 2 = 1
  · have t1 : (u : Int).tmod 2 = 1 := by rw [Int.tmod_eq_emod_of_nonneg (by omega)]; omega
    rw [if_pos (by omega)]
    clear hq e1 h1
    go_enter Try.func45, Try.ntmps45
    go_wp2_with fail
    go_ret
    exact ⟨rfl, rfl⟩
  · have t1 : (u : Int).tmod 2 = 0 := by rw [Int.tmod_eq_emod_of_nonneg (by omega)]; omega
    rw [if_neg (by omega)]
    clear hq e1 h1
    go_enter Try.func45, Try.ntmps45
    go_wp2_with fail
    go_ret
    exact ⟨rfl, rfl⟩
/-- both readers are at one place -/
def Two (w0 w : World) (g h : Nat) (zs : List Int) (bad : Bool) : Prop := RS w0 w g 85 zs bad ∧ RS w0 w h 60 zs bad ∧ Below w0.heap.size w0 w
theorem two_next {w0 w w1 w2 : World} {g h : Nat} {zs ys ys' : List Int} {bad b b' : Bool} (hg : w0.heap.size ≤ g) (hh : w0.heap.size ≤ h) (hn : g ≠ h) (h0 : Two w0 w g h zs bad)
    (h1 : RS w0 w1 g 85 ys b) (u1 : Upd g w w1) (h2 : RS w0 w2 h 60 ys' b') (u2 : Upd h w1 w2) (e : ys = ys') (eb : b = b') : Two w0 w2 g h ys b := by
  subst e eb
  exact ⟨rs_blk h1 hn u2, h2, upd_below (upd_below h0.2.2 hg u1) hh u2⟩
theorem two_next' {w0 w w1 w2 : World} {g h : Nat} {zs ys ys' : List Int} {bad b b' : Bool} (hg : w0.heap.size ≤ g) (hh : w0.heap.size ≤ h) (hn : g ≠ h) (h0 : Two w0 w g h zs bad)
    (h2 : RS w0 w1 h 60 ys' b') (u1 : Upd h w w1) (h1 : RS w0 w2 g 85 ys b) (u2 : Upd g w1 w2) (e : ys = ys') (eb : b = b') : Two w0 w2 g h ys b := by
  subst e eb
  exact ⟨h1, rs_blk h2 hn.symm u2, upd_below (upd_below h0.2.2 hh u1) hg u2⟩
set_option maxRecDepth 100000 in
set_option maxHeartbeats 4000000 in
theorem step_any (g h kk : Nat) (most : Int) (zs : List Int) (bad : Bool) (w0 w : World) (hz : Two w0 w g h zs bad) (hg : w0.heap.size ≤ g) (hh : w0.heap.size ≤ h) (hn : g ≠ h) (hl : zs.length ≤ 1000000) (m0 : -9223372036854775808 ≤ most) (m1 : most ≤ 9223372036854775807) :
    Calls Try.prog 26 #[.pointer (some ⟨g, 0, none⟩), .pointer (some ⟨h, 0, none⟩), .int .i64 (kk : Nat), .int .i64 most] w fun e w' => e = .returned (.bool true) ∧ ∃ ys b, Two w0 w' g h ys b ∧ ys.length ≤ zs.length := by
  have HZ := Lib.hid hz
  obtain ⟨hr, hd, hB⟩ := hz
  have hnl := nextB_le zs; have htl := textN_le zs
  have hu := (numB_bd zs).1
  have e4 : (kk : Int).tmod 4 = ((kk % 4 : Nat) : Int) := rfl
  have hk4 : kk % 4 < 4 := Nat.mod_lt _ (by decide)
  generalize kk % 4 = r at e4 hk4
  obtain rfl | rfl | rfl | rfl : r = 0 ∨ r = 1 ∨ r = 2 ∨ r = 3 := by omega
  · have K1 := Lib.hid (pnum_any g zs bad w0 w hr hB hl)
    have K2 := Lib.hid (fun w1 (hu : Upd g w w1) => drnum_any h zs bad w0 w1 (rs_blk hd hn.symm hu) (upd_below hB hg hu) hl)
    clear hr hd hB
    go_enter Try.func26, Try.ntmps26
    go_wp2_with fail
    refine K1.out.mono ?_
    rintro e w1 ⟨rfl, a1, a2⟩
    go_wp2_with fail
    refine (K2.out w1 a2).mono ?_
    rintro e w2 ⟨rfl, b1, b2⟩
    go_wp2_with fail
    go_ret
    exact ⟨by simp, _, _, two_next hg hh hn HZ.out a1 a2 b1 b2 rfl rfl, hnl⟩
  · have K1 := Lib.hid (pint_any g zs bad w0 w hr hB hl)
    have K2 := Lib.hid (fun w1 (hu : Upd g w w1) => drnum_any h zs bad w0 w1 (rs_blk hd hn.symm hu) (upd_below hB hg hu) hl)
    have K3 := Lib.hid (fun w => dunfold_any _ w hu)
    clear hr hd hB
    go_enter Try.func26, Try.ntmps26
    go_wp2_with fail
    refine K1.out.mono ?_
    rintro e w1 ⟨rfl, a1, a2⟩
    go_wp2_with fail
    refine (K2.out w1 a2).mono ?_
    rintro e w2 ⟨rfl, b1, b2⟩
    go_wp2_with fail
    refine (K3.out w2).mono ?_
    rintro e w3 ⟨rfl, rfl⟩
    go_wp2_with fail
    go_ret
    exact ⟨by simp, _, _, two_next hg hh hn HZ.out a1 a2 b1 b2 rfl rfl, hnl⟩
  · have K1 := Lib.hid (drnum_any h zs bad w0 w hd hB hl)
    have K2 := Lib.hid (fun w1 (hu : Upd h w w1) => psmall_any g zs bad most w0 w1 (rs_blk hr hn hu) (upd_below hB hh hu) hl m0 m1)
    clear hr hd hB
    obtain ⟨s, hS⟩ : ∃ s, smallV zs most = s := ⟨_, rfl⟩
    have HS := hS
    unfold smallV at HS
    rw [hS] at K2
    clear hS
    obtain ⟨m, hm⟩ : ∃ m, (numB zs).1 = m := ⟨_, rfl⟩
    rw [hm] at K1 K2 hu HS
    clear hm
    cases s
    · rw [Bool.or_eq_false_iff, decide_eq_false_iff_not, decide_eq_false_iff_not] at HS
      obtain ⟨q1, q2⟩ := HS
      have wc : IntKind.u64.wrap most = most := by rw [IntKind.wrap_u64]; omega
      have wm : IntKind.i64.wrap (m : Int) = m := IntWalk.i64_in _ (by omega)
      simp only [Bool.false_eq_true, if_false, Bool.or_false] at K2
      go_enter Try.func26, Try.ntmps26
      go_wp2_with fail
      refine K1.out.mono ?_
      rintro e w1 ⟨rfl, a1, a2⟩
      go_wp2_with fail
      refine (K2.out w1 a2).mono ?_
      rintro e w2 ⟨rfl, b1, b2⟩
      go_wp2_with fail
      go_ret
      exact ⟨by simp, _, _, two_next' hg hh hn HZ.out a1 a2 b1 b2 rfl rfl, hnl⟩
    · rw [Bool.or_eq_true, decide_eq_true_eq, decide_eq_true_eq] at HS
      simp only [if_true, Bool.or_true] at K2
      by_cases q1 : most < 0
      all_goals (
        (try have wc : IntKind.u64.wrap most = most := by rw [IntKind.wrap_u64]; omega)
        (try have q2 : most < (m : Int) := by omega)
        clear HS
        go_enter Try.func26, Try.ntmps26
        go_wp2_with fail
        refine K1.out.mono ?_
        rintro e w1 ⟨rfl, a1, a2⟩
        obtain ⟨A, c, hb, ha, hc1, hc2⟩ := a1
        have HB := Lib.hid hb
        obtain ⟨k0, k1, j0, j1⟩ := hb.two
        clear hb
        have A2 := Lib.hid a2
        go_wp2_with fail
        have hu2 : Upd h w _ := A2.out.trans (upd_two (Below.refl _ _) (.slice none 0 0) (.bool true))
        refine (K2.out _ hu2).mono ?_
        rintro e w2 ⟨rfl, b1, b2⟩
        have a1' : RS w0 _ h 60 [] true := ⟨none, 0, by simpa using Blk.put2 HB.out (.slice none 0 0) (.bool true), fun i hi => absurd hi (by simp), by simp, by simp [maxLen]⟩
        go_wp2_with fail
        go_ret
        exact ⟨by simp, _, _, two_next' hg hh hn HZ.out a1' hu2 b1 b2 rfl rfl, by simp⟩)
  · have K1 := Lib.hid (ptext_any g zs bad w0 w hr hB hg hl)
    have K2 := Lib.hid (fun w1 (hu : Upd g w w1) => drtext_any h zs bad w0 w1 (rs_blk hd hn.symm hu) (upd_below hB hg hu) hh hl)
    clear hr hd hB
    go_enter Try.func26, Try.ntmps26
    go_wp2_with fail
    refine K1.out.mono ?_
    rintro e w1 ⟨rfl, a1, a2⟩
    go_wp2_with fail
    refine (K2.out w1 a2).mono ?_
    rintro e w2 ⟨rfl, b1, b2⟩
    go_wp2_with fail
    go_ret
    exact ⟨by simp, _, _, two_next hg hh hn HZ.out a1 a2 b1 b2 rfl rfl, htl⟩
end Go.Proofs.Ytnjdeikikdieoab
