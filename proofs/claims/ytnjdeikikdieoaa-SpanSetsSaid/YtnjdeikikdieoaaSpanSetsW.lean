/- The walk of SpanSets: it answers true for every input, and leaves all old blocks as they were. No condition. -/
import Derived.Test.YtnjdeikikdieoaaRows
import Derived.Test.YtnjdeikikdieoaaRowKit
import Derived.Test.YtnjdeikikdieoaaRowS
import Derived.Test.YtnjdeikikdieoaaRowZ
import Derived.Test.YtnjdeikikdieoaaSlicesEq
import Derived.Test.YtnjdeikikdieoaaSlicesEqM
import Derived.Test.YtnjdeikikdieoaaRowL
import Derived.Test.YtnjdeikikdieoaaRowM
import Derived.Test.YtnjdeikikdieoaaMakeI
import Derived.Test.YtnjdeikikdieoaaBlocks
import Derived.Test.YtnjdeikikdieoaaSpanMath
import Derived.Test.YtnjdeikikdieoaaSpanA
import Derived.Test.YtnjdeikikdieoaaSpanB
import Derived.Test.YtnjdeikikdieoaaSpanC
import Derived.Test.YtnjdeikikdieoaaSpanD
import Derived.Test.YtnjdeikikdieoaaSpanF
import Derived.Test.YtnjdeikikdieoaaSpanK
import Derived.Test.YtnjdeikikdieoaaSpanI
import Derived.WalkKit
import Derived.ProofKit
import Derived.OpenShut
import Derived.Deep.QuietTactic
import Derived.BigQuiet
import Derived.Lib.SmallJoins
import Derived.Lib.Hide
import Derived.WalkSpells
import Derived.WalkLawsBesides
import Derived.Deep.LoopGhost
import Derived.OwnWalk
import Derived.BigRegion
import Derived.Deep.RegionHeld3
import Derived.IntWalk
namespace Go.Proofs.Ytnjdeikikdieoaa.spanSets
open Go.ChangeShapes Go.WideShapes Go.ChangeAt Go.RowKit Go.Joins
set_option linter.unusedSimpArgs false
set_option linter.unusedVariables false

theorem kind0 (x : List (Int × Int)) (n : Int) : kindF 0 x [] n = hasL x n := by unfold kindF; simp
theorem kind1 (a b : List (Int × Int)) (n : Int) : kindF 1 a b n = (hasL a n && hasL b n) := by unfold kindF; simp
theorem kind2 (a b : List (Int × Int)) (n : Int) : kindF 2 a b n = (hasL a n && !hasL b n) := by unfold kindF; simp
theorem make_lo {w : World} {va vb : Value} {a b : List (Int × Int)} (ha : IsS w va a) (hb : IsS w vb b) (kind : Int) : RtL LO (makeL a b kind) ∧ ∀ n, hasL (makeL a b kind) n = kindF kind a b n :=
  make_spec a b kind LO (fun p hp => by
    have h := (List.mem_append.1 hp).elim (zS_in ha p) (zS_in hb p)
    have e : LO = -9223372036854775809 := rfl
    omega)
theorem sets_split (f g : Bool) : f = ((f && g) || (f && !g)) := by cases f <;> cases g <;> rfl
set_option maxRecDepth 100000 in
set_option maxHeartbeats 8000000 in
theorem walk {A B : Option Addr} {ca cb k1 k2 : Nat} {z1 z2 : Nat → Nat → Int} {n : Int} {w : World} (a1 : k1 ≤ ca) (a2 : ca ≤ maxLen) (ra : RdZ w 2 A k1 z1) (a3 : A = none → ca = 0) (b1 : k2 ≤ cb) (b2 : cb ≤ maxLen) (rb : RdZ w 2 B k2 z2) (b3 : B = none → cb = 0) (_ : (Lit.int .i64 n).wf = true) :
    Calls Try.prog 4 #[.slice A k1 ca, .slice B k2 cb, .int .i64 n] w fun e w' => e = .returned (.bool true) ∧ Below w.heap.size w w' := by
  have ha := isS_arg ra a1 a2 a3
  have hb := isS_arg rb b1 b2 b3
  obtain ⟨X, hX⟩ : ∃ X, listZ z1 k1 = X := ⟨_, rfl⟩
  obtain ⟨Y, hY⟩ : ∃ Y, listZ z2 k2 = Y := ⟨_, rfl⟩
  have hXl : X.length = k1 := by rw [← hX, listZ_len]
  have hYl : Y.length = k2 := by rw [← hY, listZ_len]
  rw [hX] at ha
  rw [hY] at hb
  have HX := Lib.hid ha; have HY := Lib.hid hb
  have hM : maxLen ≤ 9223372036854775807 := by decide
  clear ra rb hX hY ha hb
  by_cases g1 : 40 < k1
  · have g1' : (40 : Int) < (k1 : Int) := by omega
    go_enter Try.func4, Try.ntmps4
    go_wp2_with fail
    go_ret
    exact ⟨rfl, Below.refl _ _⟩
  by_cases g2 : 40 < k2
  · have g1' : ¬ (40 : Int) < (k1 : Int) := by omega
    have g2' : (40 : Int) < (k2 : Int) := by omega
    go_enter Try.func4, Try.ntmps4
    go_wp2_with fail
    go_ret
    exact ⟨rfl, Below.refl _ _⟩
  have g1' : ¬ (40 : Int) < (k1 : Int) := by omega
  have g2' : ¬ (40 : Int) < (k2 : Int) := by omega
  have K1 := Lib.hid (make0_any _ _ X [] w HX.out (isS_nil w) (by omega) (by simp))
  have L1 := make_lo HX.out (isS_nil w) 0
  have L2 := make_lo HY.out (isS_nil w) 0
  have K2 := Lib.hid (fun w1 (hb : Below w.heap.size w w1) => make0_any _ _ Y [] w1 (HY.out.kept hb) (isS_nil w1) (by omega) (by simp))
  obtain ⟨a, hA⟩ : ∃ a, makeL X [] 0 = a := ⟨_, rfl⟩
  obtain ⟨b, hB⟩ : ∃ b, makeL Y [] 0 = b := ⟨_, rfl⟩
  unfold MakR at K1 K2
  rw [hA] at K1 L1
  rw [hB] at K2 L2
  have RA := Lib.hid L1.1; have RB := Lib.hid L2.1
  clear L1 L2 hA hB
  go_enter Try.func4, Try.ntmps4
  go_wp2_with fail
  refine K1.out.mono ?_
  rintro e w1 ⟨va, rfl, ha, hb1, hal⟩
  have HB1 := Lib.hid hb1
  have hal : a.length ≤ 80 := by simp at hal; omega
  have HA1 := Lib.hid ha
  have hb1s := hb1.size
  clear ha hb1
  go_wp2_with fail
  refine (K2.out w1 HB1.out).mono ?_
  rintro e w2 ⟨vb, rfl, hb, hb2, hbl⟩
  have HB2 := Lib.hid (HB1.out.trans (hb2.mono hb1s))
  have hbl : b.length ≤ 80 := by simp at hbl; omega
  have HA2 := Lib.hid (HA1.out.kept hb2)
  have HBB := Lib.hid hb
  obtain ⟨Aa, ka, rfl, _, _, _, _⟩ := HA2.out
  clear hb hb2 HA1 HX HY K1 K2 hb1s
  have KA := Lib.hid (and_any _ vb a b LO LO w2 HA2.out HBB.out (rt_wk _ _ RA.out) (rt_wk _ _ RB.out) (Int.le_refl _) (by omega) (by omega))
  have KS := Lib.hid (fun w3 (hb : Below w2.heap.size w2 w3) => sub_any _ vb a b w3 (HA2.out.kept hb) (HBB.out.kept hb) RA.out RB.out (by omega) (by omega))
  have M1 := Lib.hid (make_lo HA2.out HBB.out 1)
  have M2 := Lib.hid (make_lo HA2.out HBB.out 2)
  go_wp2_with fail
  refine KA.out.mono ?_
  rintro e w3 ⟨v3, R3, rfl, h3, r3, n3, l3, b3⟩
  obtain rfl : R3 = makeL a b 1 := rt_unique _ _ LO LO r3 M1.out.1 (fun n => by rw [n3 n, M1.out.2 n, kind1])
  have HC3 := Lib.hid b3
  have H3 := Lib.hid h3
  clear r3 n3 l3 h3 b3
  go_wp2_with fail
  refine (KS.out w3 HC3.out).mono ?_
  rintro e w4 ⟨v4, R4, rfl, h4, r4, n4, l4, b4⟩
  obtain rfl : R4 = makeL a b 2 := rt_unique _ _ LO LO r4 M2.out.1 (fun n => by rw [n4 n, M2.out.2 n, kind2])
  have H4 := Lib.hid h4
  have H34 := Lib.hid (H3.out.kept b4)
  have HC4 := Lib.hid (HC3.out.trans (b4.mono HC3.out.size))
  clear r4 n4 l4 h4 b4 H3 HC3 KA KS
  go_wp2_with fail
  refine (make1_any _ vb a b w4 (HA2.out.kept HC4.out) (HBB.out.kept HC4.out) (by omega) (by omega)).mono ?_
  rintro e w5 ⟨v5, rfl, h5, b5, l5⟩
  have H35 := Lib.hid (H34.out.kept b5); have H45 := Lib.hid (H4.out.kept b5)
  have H5 := Lib.hid h5
  have HC5 := Lib.hid (HC4.out.trans (b5.mono HC4.out.size))
  clear h5 b5 H34 H4 HC4
  go_wp2_with fail
  refine (spans_same v3 v5 _ w5 H35.out H5.out (by omega)).mono ?_
  rintro e w6 ⟨rfl, b6⟩
  have H36 := Lib.hid (H35.out.kept b6); have H46 := Lib.hid (H45.out.kept b6)
  have HC6 := Lib.hid (HC5.out.trans (b6.mono HC5.out.size))
  clear b6 H35 H45 HC5 H5
  go_wp2_with fail
  refine (make2_any _ vb a b w6 (HA2.out.kept HC6.out) (HBB.out.kept HC6.out) (by omega) (by omega)).mono ?_
  rintro e w7 ⟨v7, rfl, h7, b7, l7⟩
  have H37 := Lib.hid (H36.out.kept b7); have H47 := Lib.hid (H46.out.kept b7)
  have H7 := Lib.hid h7
  have HC7 := Lib.hid (HC6.out.trans (b7.mono HC6.out.size))
  clear h7 b7 H36 H46 HC6
  go_wp2_with fail
  refine (spans_same v4 v7 _ w7 H47.out H7.out (by omega)).mono ?_
  rintro e w8 ⟨rfl, b8⟩
  have H38 := Lib.hid (H37.out.kept b8); have H48 := Lib.hid (H47.out.kept b8)
  have HC8 := Lib.hid (HC7.out.trans (b8.mono HC7.out.size))
  clear b8 H37 H47 HC7 H7
  have HSP : Hid (hasL a n = (hasL (makeL a b 1) n || hasL (makeL a b 2) n)) := Lib.hid (by rw [M1.out.2, M2.out.2, kind1, kind2]; exact sets_split _ _)
  obtain ⟨f1, hf1⟩ : ∃ f, hasL (makeL a b 1) n = f := ⟨_, rfl⟩
  obtain ⟨f2, hf2⟩ : ∃ f, hasL (makeL a b 2) n = f := ⟨_, rfl⟩
  rw [hf1, hf2] at HSP
  have KH1 := Lib.hid (fun w9 (hb : Below w8.heap.size w8 w9) => has_any v3 _ n LO w9 (H38.out.kept hb) M1.out.1 (by omega))
  have KH2 := Lib.hid (fun w9 (hb : Below w8.heap.size w8 w9) => has_any v4 _ n LO w9 (H48.out.kept hb) M2.out.1 (by omega))
  have KHA := Lib.hid (has_any _ a n LO w8 (HA2.out.kept HC8.out) RA.out (by omega))
  rw [hf1] at KH1
  rw [hf2] at KH2
  rw [HSP.out] at KHA
  clear hf1 hf2 H38 H48
  go_wp2_with fail
  refine KHA.out.mono ?_
  rintro e w9 ⟨rfl, b9⟩
  have HC9 := Lib.hid b9
  have b9s := b9.size
  clear b9
  go_wp2_with fail
  refine (KH1.out w9 HC9.out).mono ?_
  rintro e w10 ⟨rfl, b10⟩
  have HC10 := Lib.hid (HC9.out.trans (b10.mono b9s))
  clear b10 b9s
  have HALL : ∀ W, Below w8.heap.size w8 W → Below w.heap.size w W := fun W hW => by
    have h1 := HC8.out.trans (hW.mono HC8.out.size)
    exact HB2.out.trans (h1.mono HB2.out.size)
  have HALL := Lib.hid HALL
  have FIN : ∀ W, Below w8.heap.size w8 W → Hid (Calls Try.prog 19 #[] W fun e w' => e = .returned (.bool true) ∧ Below w.heap.size w w') := fun W hW => Lib.hid ((salive W).mono (by
    rintro e w' ⟨rfl, hb⟩
    have h1 := HALL.out W hW
    exact ⟨rfl, h1.trans (hb.mono h1.size)⟩))
  have HFIN := Lib.hid FIN
  clear FIN
  cases f1
  · go_wp2_with fail
    refine (KH2.out w10 HC10.out).mono ?_
    rintro e w11 ⟨rfl, b11⟩
    have HC11 := Lib.hid (HC10.out.trans (b11.mono HC10.out.size))
    clear b11
    have hff : ((false || f2) == f2) = true := by simp
    have hff2 : (f2 == f2) = true := by simp
    go_wp2_with fail
    refine (HFIN.out w11 HC11.out).out.mono ?_
    rintro e w12 ⟨rfl, b12⟩
    go_wp2_with fail
    go_ret
    exact ⟨rfl, b12⟩
  · go_wp2_with fail
    refine (HFIN.out w10 HC10.out).out.mono ?_
    rintro e w12 ⟨rfl, b12⟩
    go_wp2_with fail
    go_ret
    exact ⟨rfl, b12⟩


end Go.Proofs.Ytnjdeikikdieoaa.spanSets
