/- The walk of ZoneLeast: it answers true for every input, and leaves all old blocks as they were. No condition. -/
import Derived.Test.YtbjcigkakeffmaaRows
import Derived.Test.YtbjcigkakeffmaaRowKit
import Derived.Test.YtbjcigkakeffmaaRowKit
import Derived.Test.YtbjcigkakeffmaaRowS
import Derived.Test.YtbjcigkakeffmaaRowZ
import Derived.Test.YtbjcigkakeffmaaSlicesEq
import Derived.Test.YtbjcigkakeffmaaSlicesEqM
import Derived.Test.YtbjcigkakeffmaaRowL
import Derived.Test.YtbjcigkakeffmaaRowM
import Derived.Test.YtbjcigkakeffmaaMakeI
import Derived.Test.YtbjcigkakeffmaaBlocks
import Derived.Test.YtbjcigkakeffmaaZoneMath
import Derived.Test.YtbjcigkakeffmaaZoneA
import Derived.Test.YtbjcigkakeffmaaZoneB
import Derived.Test.YtbjcigkakeffmaaZoneC
import Derived.Test.YtbjcigkakeffmaaZoneD
import Derived.Test.YtbjcigkakeffmaaZoneE
import Derived.WalkKit
import Derived.ProofKit
import Derived.OpenShut
import Derived.Deep.QuietTactic
import Derived.BigQuiet
import Derived.Lib.SmallJoins
import Derived.Lib.Hide
import Derived.WalkSpells
import Derived.WalkLawsBesides
import Derived.OwnWalk
import Derived.BigRegion
import Derived.Deep.LoopGhost
import Derived.IntWalk
namespace Go.Proofs.Ytbjcigkakeffmaa.zoneLeast
open Go.ChangeShapes Go.WideShapes Go.ChangeAt Go.RowKit Go.Joins
set_option linter.unusedSimpArgs false
set_option linter.unusedVariables false

def RtL (Q : Prop) (w : World) (e : Ending) (w' : World) : Prop := ∃ b, e = .returned (.bool b) ∧ (b = true ↔ Q) ∧ w = w'
set_option maxRecDepth 100000 in
set_option maxHeartbeats 4000000 in
theorem lright_any (A : Option Addr) (c n : Nat) (zs : List Int) (k : Int) (w : World) (hn : zs.length = n) (hl : n ≤ 9223372036854775807) (hr : RdI w .i64 A zs) :
    Calls Try.prog 14 #[.slice A n c, .int .i64 k] w (RtL (RgZ zs n k) w) := by
  have NO : (¬ RgZ zs n k) → Hid (∀ e, e = Ending.returned (.bool false) → RtL (RgZ zs n k) w e w) := fun h => Lib.hid fun e he => ⟨false, he, ⟨(fun h' => by cases h'), fun h' => absurd h' h⟩, rfl⟩
  have YES : Hid (RgZ zs n k → ∀ e, e = Ending.returned (.bool true) → RtL (RgZ zs n k) w e w) := Lib.hid fun h e he => ⟨true, he, ⟨fun _ => h, fun _ => rfl⟩, rfl⟩
  rcases (show n = 0 ∨ (0 < n ∧ 128 < n) ∨ (0 < n ∧ n ≤ 128 ∧ k < 1) ∨ (0 < n ∧ n ≤ 128 ∧ 1 ≤ k) by omega) with h | ⟨h, h1⟩ | ⟨h, h1, h2⟩ | ⟨h, h1, h2⟩
  · have F := NO (fun q => by have := q.1; omega)
    clear NO YES hr
    subst h
    go_enter Try.func14, Try.ntmps14
    go_wp2_with fail
    go_ret
    exact F.out _ rfl
  · have F := NO (fun q => by have := q.2.1; omega)
    have d0 : decide ((n : Int) < 1) = false := decide_eq_false (by omega)
    have i0 : 1 ≤ (n : Int) := by omega
    have i1 : 128 < (n : Int) := by omega
    clear NO YES hr
    go_enter Try.func14, Try.ntmps14
    go_wp2_with fail
    go_ret
    exact F.out _ rfl
  · have F := NO (fun q => by have := q.2.2.1; omega)
    have d0 : decide ((n : Int) < 1) = false := decide_eq_false (by omega)
    have d1 : decide (128 < (n : Int)) = false := decide_eq_false (by omega)
    have i0 : 1 ≤ (n : Int) := by omega
    have i1 : (n : Int) ≤ 128 := by omega
    clear NO YES hr
    go_enter Try.func14, Try.ntmps14
    go_wp2_with fail
    go_ret
    exact F.out _ rfl
  · have d0 : decide ((n : Int) < 1) = false := decide_eq_false (by omega)
    have d1 : decide (128 < (n : Int)) = false := decide_eq_false (by omega)
    have d2 : decide (k < 1) = false := decide_eq_false (by omega)
    have i0 : 1 ≤ (n : Int) := by omega
    have i1 : (n : Int) ≤ 128 := by omega
    have HR := Lib.hid hr
    have HN := Lib.hid hn
    have NOh := Lib.hid NO
    clear NO hr hn
    go_enter Try.func14, Try.ntmps14
    go_wp2_with fail
    go_loopg [5] n (fun g i wr => ∃ j : Nat, j ≤ n ∧ g = n - j ∧ i = .int .i64 j ∧ Hid (∀ q, q < j → 0 ≤ zat zs q ∧ zat zs q ≤ 1048576) ∧ wr = w)
    case atStart => exact ⟨0, by omega, rfl, rfl, Lib.hid fun q hq => absurd hq (by omega), rfl⟩
    case round =>
      obtain ⟨j, hj, rfl, rfl, hA, rfl⟩ := hrel
      by_cases hjn : j < n
      · obtain ⟨bb, oo, rfl, hlt, hc⟩ := rdI_row HR.out (by have := HN.out; omega)
        have ck := hc j (by have := HN.out; omega)
        obtain ⟨x, hx⟩ : ∃ x, zat zs j = x := ⟨_, rfl⟩
        rw [hx] at ck
        have jI : (j : Int) < (n : Int) := by omega
        have j0 : (0 : Int) ≤ (j : Int) := by omega
        have HX := Lib.hid hx
        clear hc hx
        rcases (show x < 0 ∨ (0 ≤ x ∧ 1048576 < x) ∨ (0 ≤ x ∧ x ≤ 1048576) by omega) with g0 | ⟨g0, g1⟩ | ⟨g0, g1⟩
        · have F := NOh.out (fun q => by have := (q.2.2.2 j hjn).1; rw [HX.out] at this; omega)
          have e0 : decide (x < 0) = true := decide_eq_true g0
          clear NOh YES
          go_wp2_with fail
          go_ret
          exact F.out _ rfl
        · have F := NOh.out (fun q => by have := (q.2.2.2 j hjn).2; rw [HX.out] at this; omega)
          have e0 : decide (x < 0) = false := decide_eq_false (by omega)
          have e1 : decide (1048576 < x) = true := decide_eq_true g1
          clear NOh YES
          go_wp2_with fail
          go_ret
          exact F.out _ rfl
        · have e0 : decide (x < 0) = false := decide_eq_false (by omega)
          have e1 : decide (1048576 < x) = false := decide_eq_false (by omega)
          have hB : Hid (∀ q, q < j + 1 → 0 ≤ zat zs q ∧ zat zs q ≤ 1048576) := Lib.hid fun q hq => by
            by_cases e : q = j
            · rw [e, HX.out]; exact ⟨g0, g1⟩
            · exact hA.out q (by omega)
          go_wp2_with fail
          go_roundg (n - (j + 1))
          case measure => omega
          case rel => exact ⟨j + 1, by omega, rfl, by go_num, hB, rfl⟩
      · obtain rfl : j = n := by omega
        have hj' : ¬ ((j : Int) < j) := by omega
        have F := Lib.hid (YES.out ⟨by omega, h1, h2, hA.out⟩)
        clear NOh YES
        go_wp2_with fail
        go_ret
        exact F.out _ rfl
set_option maxRecDepth 100000 in
set_option maxHeartbeats 8000000 in
theorem walk_f (A : Option Addr) (n c : Nat) (zs : List Int) (k : Int) (w : World) (hn : zs.length = n) (hl : n ≤ 9223372036854775807) (hr : RdI w .i64 A zs) :
    Calls Try.prog 4 #[.slice A n c, .int .i64 k] w fun e w' => e = .returned (.bool true) ∧ Below w.heap.size w w' := by
  have HR := Lib.hid hr
  have JR := Lib.hid (fun w hr => lright_any A c n zs k w hn hl hr)
  by_cases hq : RgZ zs n k
  · have JL := Lib.hid (fun w hr => zleast_ok A c n zs k w hn hl hr hq)
    have JC := Lib.hid (fun w hr => zct_ok A c n zs k w hn hl hr hq)
    have JD := Lib.hid (fun (h : n ≤ 40) w hr => rleast60_any A c n zs k w hn h hr hq)
    have HQ := Lib.hid hq
    obtain ⟨q0, q1, q2, _⟩ := hq
    obtain ⟨M, hM⟩ : ∃ M, lsZ zs n k = M := ⟨_, rfl⟩
    unfold CtR at JC
    simp only [hM] at JL JC JD
    obtain ⟨cn, hcn⟩ : ∃ q, cnZ (zat zs) M n = q := ⟨_, rfl⟩
    simp only [hcn] at JC
    have qm : (M == M) = true := by simp
    clear hr hn hM hcn
    go_enter Try.func4, Try.ntmps4
    go_wp2_with fail
    refine (JL.out _ HR.out).mono ?_
    rintro e w1 ⟨rfl, hb⟩
    have E1 := Lib.hid hb
    clear hb
    go_wp2_with fail
    refine (JC.out _ (HR.out.kept E1.out)).mono ?_
    rintro e w2 ⟨A', c', rfl, g1, g2, g3, hb⟩
    have E2 := Lib.hid (E1.out.trans (hb.mono E1.out.size))
    clear hb g1 g2 g3
    go_wp2_with fail
    refine (JR.out _ (HR.out.kept E2.out)).mono ?_
    rintro e w3 ⟨b, rfl, hbq, rfl⟩
    obtain rfl : b = true := hbq.2 HQ.out
    clear hbq
    rcases (show 40 < n ∨ (n ≤ 40 ∧ 12 < k) ∨ (n ≤ 40 ∧ k ≤ 12) by omega) with h | ⟨h, h1⟩ | ⟨h, h1⟩
    · have d0 : 40 < (n : Int) := by omega
      have d1 : decide (40 < (n : Int)) = true := decide_eq_true d0
      go_wp2_with fail
      refine (zalive _).mono ?_
      rintro e w4 ⟨rfl, hb4⟩
      go_wp2_with fail
      go_ret
      exact ⟨rfl, E2.out.trans (hb4.mono E2.out.size)⟩
    · have d0 : (n : Int) ≤ 40 := by omega
      have d1 : decide (40 < (n : Int)) = false := decide_eq_false (by omega)
      have d2 : decide (12 < k) = true := decide_eq_true h1
      go_wp2_with fail
      refine (zalive _).mono ?_
      rintro e w4 ⟨rfl, hb4⟩
      go_wp2_with fail
      go_ret
      exact ⟨rfl, E2.out.trans (hb4.mono E2.out.size)⟩
    · have d0 : (n : Int) ≤ 40 := by omega
      have d1 : decide (40 < (n : Int)) = false := decide_eq_false (by omega)
      have d2 : decide (12 < k) = false := decide_eq_false (by omega)
      have JD2 := Lib.hid (JD.out h)
      clear JD
      go_wp2_with fail
      refine (JD2.out _ (HR.out.kept E2.out)).mono ?_
      rintro e w4 ⟨rfl, hb4⟩
      have E4 := Lib.hid (E2.out.trans (hb4.mono E2.out.size))
      clear hb4
      go_wp2_with fail
      refine (zalive _).mono ?_
      rintro e w5 ⟨rfl, hb5⟩
      go_wp2_with fail
      go_ret
      exact ⟨rfl, E4.out.trans (hb5.mono E4.out.size)⟩
  · have JL := Lib.hid (fun w hr => zleast_bad A c n zs k w hn hl hr hq)
    have JC := Lib.hid (fun w hr => zct_bad A c n zs k w hn hl hr hq)
    have HQ := Lib.hid hq
    clear hr hn hq
    go_enter Try.func4, Try.ntmps4
    go_wp2_with fail
    refine (JL.out _ HR.out).mono ?_
    rintro e w1 ⟨rfl, hb⟩
    have E1 := Lib.hid hb
    clear hb
    go_wp2_with fail
    refine (JC.out _ (HR.out.kept E1.out)).mono ?_
    rintro e w2 ⟨rfl, hb⟩
    have E2 := Lib.hid (E1.out.trans (hb.mono E1.out.size))
    clear hb
    go_wp2_with fail
    refine (JR.out _ (HR.out.kept E2.out)).mono ?_
    rintro e w3 ⟨b, rfl, hbq, rfl⟩
    obtain rfl : b = false := by
      cases b
      · rfl
      · exact absurd (hbq.1 rfl) HQ.out
    clear hbq
    go_wp2_with fail
    refine (zalive _).mono ?_
    rintro e w4 ⟨rfl, hb4⟩
    go_wp2_with fail
    go_ret
    exact ⟨rfl, E2.out.trans (hb4.mono E2.out.size)⟩
theorem walk {A : Option Addr} {c : Nat} {zs : List Int} {k : Int} {w : World} (hl : zs.length ≤ c) (hm : c ≤ maxLen) (hr : RdI w .i64 A zs) (hk : (Lit.int .i64 k).wf = true) :
    Calls Try.prog 4 #[.slice A zs.length c, .int .i64 k] w fun e w' => e = .returned (.bool true) ∧ Below w.heap.size w w' := by
  unfold maxLen at hm
  exact walk_f A zs.length c zs k w rfl (by omega) hr

end Go.Proofs.Ytbjcigkakeffmaa.zoneLeast
