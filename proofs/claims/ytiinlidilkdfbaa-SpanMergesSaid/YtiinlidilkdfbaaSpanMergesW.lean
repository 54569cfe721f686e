/- The walk of SpanMerges: it answers true for every input, and leaves all old blocks as they were. No condition. -/
import Derived.Test.YtiinlidilkdfbaaRows
import Derived.Test.YtiinlidilkdfbaaRowKit
import Derived.Test.YtiinlidilkdfbaaRowS
import Derived.Test.YtiinlidilkdfbaaRowZ
import Derived.Test.YtiinlidilkdfbaaSlicesEq
import Derived.Test.YtiinlidilkdfbaaSlicesEqM
import Derived.Test.YtiinlidilkdfbaaRowL
import Derived.Test.YtiinlidilkdfbaaRowM
import Derived.Test.YtiinlidilkdfbaaMakeI
import Derived.Test.YtiinlidilkdfbaaBlocks
import Derived.Test.YtiinlidilkdfbaaAtKit
import Derived.Test.YtiinlidilkdfbaaSpanMath
import Derived.Test.YtiinlidilkdfbaaSpanA
import Derived.Test.YtiinlidilkdfbaaSpanB
import Derived.Test.YtiinlidilkdfbaaSpanC
import Derived.Test.YtiinlidilkdfbaaSpanD
import Derived.Test.YtiinlidilkdfbaaSpanF
import Derived.Test.YtiinlidilkdfbaaSpanI
import Derived.Test.YtiinlidilkdfbaaSpanK
import Derived.Test.YtiinlidilkdfbaaSpanU
import Derived.Test.YtiinlidilkdfbaaSpanV
import Derived.Test.YtiinlidilkdfbaaSpanX
import Derived.WalkKit
import Derived.ProofKit
import Derived.OpenShut
import Derived.Deep.QuietTactic
import Derived.BigQuiet
import Derived.Lib.SmallJoins
import Derived.Lib.Hide
import Derived.WalkSpells
import Derived.WalkLawsBesides
import Derived.Deep.LoopGhost
import Derived.OwnWalk
import Derived.BigRegion
import Derived.Deep.RegionHeld3
import Derived.IntWalk
namespace Go.Proofs.Ytiinlidilkdfbaa.spanMerges
open Go.ChangeShapes Go.WideShapes Go.ChangeAt Go.RowKit Go.Joins
set_option linter.unusedSimpArgs false
set_option linter.unusedVariables false

theorem kind0 (x : List (Int × Int)) (n : Int) : kindF 0 x [] n = hasL x n := by unfold kindF; simp
theorem make_lo {w : World} {va vb : Value} {a b : List (Int × Int)} (ha : IsS w va a) (hb : IsS w vb b) (kind : Int) : RtL LO (makeL a b kind) ∧ ∀ n, hasL (makeL a b kind) n = kindF kind a b n :=
  make_spec a b kind LO (fun p hp => by
    have h := (List.mem_append.1 hp).elim (zS_in ha p) (zS_in hb p)
    have e : LO = -9223372036854775809 := rfl
    omega)
theorem merge_any (v : Value) (L : List (Int × Int)) (w : World) (hv : IsS w v L) (hl : L.length ≤ 1000) : Calls Try.prog 6 #[v] w (MerR L w) := by
  have hbd := zS_in hv
  obtain ⟨A, c, rfl, hr, h1, h2, h3⟩ := hv
  rcases Nat.eq_zero_or_pos L.length with h0 | h0
  · obtain rfl := List.length_eq_zero_iff.1 h0
    exact merge_none A c w h3
  · obtain ⟨b, o, rfl, _, _⟩ := rdZ_row hr (by omega) (by omega)
    exact merge_some b o c L w hr h0 hl h1 hbd
set_option maxRecDepth 100000 in
set_option maxHeartbeats 8000000 in
theorem walk {A : Option Addr} {c k : Nat} {z : Nat → Nat → Int} {n : Int} {w : World} (a1 : k ≤ c) (a2 : c ≤ maxLen) (ra : RdZ w 2 A k z) (a3 : A = none → c = 0) (_ : (Lit.int .i64 n).wf = true) :
    Calls Try.prog 3 #[.slice A k c, .int .i64 n] w fun e w' => e = .returned (.bool true) ∧ Below w.heap.size w w' := by
  have ha := isS_arg ra a1 a2 a3
  obtain ⟨X, hX⟩ : ∃ X, listZ z k = X := ⟨_, rfl⟩
  have hXl : X.length = k := by rw [← hX, listZ_len]
  rw [hX] at ha
  have HX := Lib.hid ha
  have hM : maxLen ≤ 9223372036854775807 := by decide
  clear ra hX ha
  by_cases g1 : 60 < k
  · have g1' : (60 : Int) < (k : Int) := by omega
    go_enter Try.func3, Try.ntmps3
    go_wp2_with fail
    go_ret
    exact ⟨rfl, Below.refl _ _⟩
  have g1' : ¬ (60 : Int) < (k : Int) := by omega
  have K1 := Lib.hid (merge_any _ X w HX.out (by omega))
  have L1 := Lib.hid (make_lo HX.out (isS_nil w) 0)
  go_enter Try.func3, Try.ntmps3
  go_wp2_with fail
  refine K1.out.mono ?_
  rintro e w1 ⟨v1, R, rfl, h1, r1, n1, l1, b1⟩
  obtain rfl : R = makeL X [] 0 := rt_unique _ _ LO LO r1 L1.out.1 (fun n => by rw [n1 n, L1.out.2 n, kind0])
  obtain ⟨R, hR⟩ : ∃ R, makeL X [] 0 = R := ⟨_, rfl⟩
  have K2 := Lib.hid (make0_any _ _ X [] w1 (HX.out.kept b1) (isS_nil w1) (by omega) (by simp))
  unfold MakR at K2
  rw [hR] at K2 h1 r1 n1 l1
  have H1 := Lib.hid h1; have RR := Lib.hid r1; have NN := Lib.hid n1
  have HB1 := Lib.hid b1
  clear h1 r1 n1 b1 L1 K1 hR
  go_wp2_with fail
  refine K2.out.mono ?_
  rintro e w2 ⟨v2, rfl, h2, b2, _⟩
  have H2 := Lib.hid h2
  have H12 := Lib.hid (H1.out.kept b2)
  have HB2 := Lib.hid (HB1.out.trans (b2.mono HB1.out.size))
  clear h2 b2 K2
  go_wp2_with fail
  refine (spans_same v1 v2 _ w2 H12.out H2.out (by omega)).mono ?_
  rintro e w3 ⟨rfl, b3⟩
  have H13 := Lib.hid (H12.out.kept b3)
  have HB3 := Lib.hid (HB2.out.trans (b3.mono HB2.out.size))
  clear b3
  have K4 := Lib.hid (right_any v1 R w3 H13.out (by omega))
  rw [rg_right RR.out] at K4
  go_wp2_with fail
  refine K4.out.mono ?_
  rintro e w4 ⟨rfl, b4⟩
  have H14 := Lib.hid (H13.out.kept b4)
  have HB4 := Lib.hid (HB3.out.trans (b4.mono HB3.out.size))
  clear b4 K4
  have K5 := Lib.hid (right_any _ X w4 (HX.out.kept HB4.out) (by omega))
  have K6 := Lib.hid (fun w5 (hb : Below w.heap.size w w5) => dright_any _ X w5 (HX.out.kept hb) (by omega))
  obtain ⟨r, hr⟩ : ∃ r, rgB X = r := ⟨_, rfl⟩
  rw [hr] at K5 K6
  clear hr
  go_wp2_with fail
  refine K5.out.mono ?_
  rintro e w5 ⟨rfl, b5⟩
  have H15 := Lib.hid (H14.out.kept b5)
  have HB5 := Lib.hid (HB4.out.trans (b5.mono HB4.out.size))
  clear b5 K5
  go_wp2_with fail
  refine (K6.out w5 HB5.out).mono ?_
  rintro e w6 ⟨rfl, b6⟩
  have H16 := Lib.hid (H15.out.kept b6)
  have HB6 := Lib.hid (HB5.out.trans (b6.mono HB5.out.size))
  clear b6 K6
  have K7 := Lib.hid (has_any v1 R n LO w6 H16.out RR.out (by omega))
  rw [NN.out n] at K7
  have K8 := Lib.hid (fun w7 (hb : Below w.heap.size w w7) => dhas_any _ X n w7 (HX.out.kept hb) (by omega))
  obtain ⟨f, hf⟩ : ∃ r, hasL X n = r := ⟨_, rfl⟩
  rw [hf] at K7 K8
  clear hf
  go_wp2_with fail
  refine K7.out.mono ?_
  rintro e w7 ⟨rfl, b7⟩
  have HB7 := Lib.hid (HB6.out.trans (b7.mono HB6.out.size))
  clear b7 K7
  go_wp2_with fail
  refine (K8.out w7 HB7.out).mono ?_
  rintro e w8 ⟨rfl, rfl⟩
  go_wp2_with fail
  refine (salive _).mono ?_
  rintro e w9 ⟨rfl, b9⟩
  have HB9 := Lib.hid (HB7.out.trans (b9.mono HB7.out.size))
  clear b9
  go_wp2_with fail
  go_ret
  exact ⟨rfl, HB9.out⟩

end Go.Proofs.Ytiinlidilkdfbaa.spanMerges
