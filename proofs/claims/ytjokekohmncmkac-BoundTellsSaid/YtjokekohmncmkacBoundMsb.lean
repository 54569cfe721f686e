/- Contract of bound.Trip; the example of layer 23. -/
import Derived.Test.YtjokekohmncmkacRows
import Derived.Test.YtjokekohmncmkacRowKit
import Derived.Test.YtjokekohmncmkacRowS
import Derived.Test.YtjokekohmncmkacRowZ
import Derived.Test.YtjokekohmncmkacBlocks
import Derived.Test.YtjokekohmncmkacVetA
import Derived.Test.YtjokekohmncmkacVetB
import Derived.Test.YtjokekohmncmkacBoundA
import Derived.Test.YtjokekohmncmkacBoundB
import Derived.Test.YtjokekohmncmkacBoundC
import Derived.WalkKit
import Derived.IntWalk
import Derived.Lib.Hide
import Derived.Lib.SmallJoins
import Derived.WalkSpells
import Derived.WalkLawsBesides
import Derived.Deep.QuietTactic
import Derived.Deep.RegionHeld3
import Derived.BigQuiet
import Derived.Below
import Derived.Lib.Strings
namespace Go.Proofs.Ytjokekohmncmkac
open Go.RowKit
set_option linter.unusedSimpArgs false
set_option linter.unusedVariables false
theorem trip_eqb (s0 s1 s2 s3 s4 s5 s6 s7 s9 s10 s11 s12 : Int) (A : Option Addr) (n c : Nat) (p : Int) (w : World) (h : SB s0 s1 s3 s4 s5 s6 s7) (p1 : s3 ≤ p) (p2 : p ≤ s3) :
    Calls Try.prog 30 #[.agg #[.int .i64 s0, .int .i64 s1, .int .i64 s2, .int .i64 s3, .int .i64 s4, .int .i64 s5, .int .i64 s6, .int .i64 s7, .slice A n c, .int .i64 s9, .int .i64 s10, .int .i64 s11, .int .i64 s12], .int .i64 p] w fun e w' => e = .returned (.int .i64 (btripV s0 s1 s4 s5 s6 s7 p)) ∧ Below w.heap.size w w' := by
  have e : s3 = p := by omega
  have := trip_same s0 s1 s2 s3 s4 s5 s6 s7 s9 s10 s11 s12 A n c p w h e
  rw [show btripV s0 s1 s4 s5 s6 s7 s3 = btripV s0 s1 s4 s5 s6 s7 p by rw [e]] at this
  exact this
set_option maxRecDepth 100000 in
set_option maxHeartbeats 8000000 in
theorem main_sb (s0 s1 s2 s3 s4 s5 s6 s7 s9 s10 s11 s12 : Int) (A : Option Addr) (n c : Nat) (p l : Int) (z : Nat → Nat → Int) (w : World) (hr : RdZ w 3 A n z) (hm : n ≤ 9223372036854775807) (h8 : ¬ 8 < n) (hc : ckA (numV s0 s1 s2 s3 s4 s5 s6 s7 s10 s11 s12) s9 n z = 0) (hs : SB s0 s1 s3 s4 s5 s6 s7) (pz : 0 ≤ p) (pm : p ≤ 1073741824) (l0 : 0 ≤ l) (l1 : l ≤ 1073741824) (pq : 0 < p) (p1 : s3 ≤ p) (p2 : p ≤ s3) (hd : ¬ s5 < s7) :
    Calls Try.prog 7 #[.agg #[.int .i64 s0, .int .i64 s1, .int .i64 s2, .int .i64 s3, .int .i64 s4, .int .i64 s5, .int .i64 s6, .int .i64 s7, .slice A n c, .int .i64 s9, .int .i64 s10, .int .i64 s11, .int .i64 s12], .int .i64 p, .int .i64 l] w fun e w' => e = .returned (.bool true) ∧ Below w.heap.size w w' := by
  have k7 : ¬ s3 < p := by omega
  have h' := hs
  obtain ⟨⟨a0, a1⟩, ⟨b0, b1⟩, ⟨g0, g1⟩, ⟨c0, c1⟩, ⟨d0, d1⟩, ⟨e0, e1⟩, ⟨f0, f1⟩⟩ := h'
  have HV := Lib.hid (show ∀ W, Below w.heap.size w W → _ from fun W hb => by have := rcheck_any s0 s1 s2 s3 s4 s5 s6 s7 s9 s10 s11 s12 A n c z W (hr.kept hb) hm; rw [hc] at this; exact this)
  have KQ := fun W => quiet_any s0 s1 s2 s3 s4 s5 s6 s7 s9 s10 s11 s12 A n c W hs
  have KE := fun W => each_any s0 s1 s2 s3 s4 s5 s6 s7 s9 s10 s11 s12 A n c W hs
  have KN := fun x (hx : p * (2 * quietV s0 s1 s4 s5 s6 s7) = x) W => enough_any s0 s1 s2 s3 s4 s5 s6 s7 s9 s10 s11 s12 A n c p l x W hs pz pm l0 l1 hx
  have KR := fun W => bround_any s0 s1 s2 s3 s4 s5 s6 s7 s9 s10 s11 s12 A n c W hs
  have KS := fun W => stop_any s0 s1 s2 s3 s4 s5 s6 s7 s9 s10 s11 s12 A n c p W hs pm
  have KM := fun W => stop_any s0 s1 s2 s3 s4 s5 s6 s7 s9 s10 s11 s12 A n c (-p) W hs (by omega)
  have KT := fun W => trip_eqb s0 s1 s2 s3 s4 s5 s6 s7 s9 s10 s11 s12 A n c p W hs p1 p2
  have pb1 := mulb (m := 128) (k := 16) (show 0 ≤ s0 by omega) a1 (show 0 ≤ s1 by omega) b1 (by omega)
  obtain ⟨P1, hP1⟩ : ∃ x, s0 * s1 = x := ⟨_, rfl⟩
  obtain ⟨HG, hHG⟩ : ∃ x, P1 - s1 = x := ⟨_, rfl⟩
  have eT : topV s0 s1 = HG := by unfold topV; rw [Int.sub_mul, Int.one_mul, hP1, hHG]
  rw [hP1] at pb1
  obtain ⟨tb0, tb1⟩ := top_bd a0 a1 b0 b1
  rw [eT] at tb0 tb1
  have WP1 : IntKind.i64.wrap (s0 * s1) = P1 := by rw [hP1]; exact i64_in (by omega)
  obtain ⟨QE, hQE⟩ : ∃ x, s4 + s4 + s5 + s5 + s6 + HG + s1 + 4 = x := ⟨_, rfl⟩
  have eQ : quietV s0 s1 s4 s5 s6 s7 = QE := by unfold quietV; rw [eT]; omega
  have qb0 : 0 ≤ QE := by omega
  have qb1 : QE ≤ 3000 := by omega
  obtain ⟨E2, hE2⟩ : ∃ x, QE + QE = x := ⟨_, rfl⟩
  have eQ2 : 2 * quietV s0 s1 s4 s5 s6 s7 = E2 := by rw [eQ]; omega
  have WE2 : IntKind.i64.wrap (QE + QE) = E2 := by rw [hE2]; exact i64_in (by omega)
  have pb5 := mulb (m := 1073741824) (k := 6000) pz pm (show 0 ≤ E2 by omega) (by omega) (by omega)
  obtain ⟨EN, hEN⟩ : ∃ x, p * E2 = x := ⟨_, rfl⟩
  have KN2 := KN EN (by rw [eQ2]; exact hEN)
  rw [hEN] at pb5
  have WEN : IntKind.i64.wrap (p * E2) = EN := by rw [hEN]; exact i64_in (by omega)
  obtain ⟨EL, hEL⟩ : ∃ x, l + EN = x := ⟨_, rfl⟩
  have WEL : IntKind.i64.wrap (l + EN) = EL := by rw [hEL]; exact i64_in (by omega)
  rw [hEL] at KN2
  obtain ⟨RE, hRE⟩ : ∃ x, HG + HG = x := ⟨_, rfl⟩
  have WRE : IntKind.i64.wrap (HG + HG) = RE := by rw [hRE]; exact i64_in (by omega)
  obtain ⟨M3, hM3⟩ : ∃ x, s4 + s5 + s6 = x := ⟨_, rfl⟩
  have WM2 : IntKind.i64.wrap (s4 + s5) = s4 + s5 := i64_in (by omega)
  have WM3 : IntKind.i64.wrap (s4 + s5 + s6) = M3 := by rw [hM3]; exact i64_in (by omega)
  have eM : stopT s4 s5 s6 s7 (-p) = M3 := by unfold stopT; rw [show max 0 (-p) = 0 by omega, Int.zero_mul]; omega
  have WNG : IntKind.i64.wrap (-p) = -p := i64_in (by omega)
  have hmx : max (-p) 0 = 0 := by omega


  have WZ : IntKind.i64.wrap (0 * s7) = 0 := by rw [Int.zero_mul]; exact i64_in (by omega)
  have WZ' : IntKind.i64.wrap (0 : Int) = 0 := i64_in (by omega)
  have WM4 : IntKind.i64.wrap (M3 + 0) = M3 := by rw [Int.add_zero]; exact i64_in (by omega)
  have WM5 : IntKind.i64.wrap M3 = M3 := i64_in (by omega)
  have pb2 := mulb (m := 1073741824) (k := 64) pz pm (show 0 ≤ s7 by omega) f1 (by omega)
  obtain ⟨PT, hPT⟩ : ∃ x, p * s7 = x := ⟨_, rfl⟩
  rw [hPT] at pb2
  have WPT : IntKind.i64.wrap (p * s7) = PT := by rw [hPT]; exact i64_in (by omega)
  obtain ⟨SE, hSE⟩ : ∃ x, s4 + PT + s5 + s6 = x := ⟨_, rfl⟩
  have eS : stopT s4 s5 s6 s7 p = SE := by unfold stopT; rw [show max 0 p = p by omega, hPT, hSE]
  have pb3 := mulb (m := 64) (k := 64) (show 0 ≤ p by omega) (by omega) (show 0 ≤ s7 by omega) f1 (by omega)
  have pb4 := mulb (m := 64) (k := 256) (show 0 ≤ p by omega) (by omega) (show 0 ≤ s4 + s7 + s5 + s6 by omega) (by omega) (by omega)
  rw [hPT] at pb3
  have eNT : p * s7 = PT := hPT
  obtain ⟨NS, hNS⟩ : ∃ x, p * (s4 + s7 + s5 + s6) = x := ⟨_, rfl⟩
  rw [hNS] at pb4
  have WNS : IntKind.i64.wrap (p * (s4 + s7 + s5 + s6)) = NS := by rw [hNS]; exact i64_in (by omega)
  obtain ⟨TE, hTE⟩ : ∃ x, RE + s4 + PT + s5 + s6 + NS = x := ⟨_, rfl⟩
  have x60 : 0 ≤ RE := by omega
  have x61 : RE ≤ 4064 := by omega
  have eTr : btripV s0 s1 s4 s5 s6 s7 p = TE := by
    unfold btripV
    rw [eT, show stopT s4 s5 s6 s7 p = s4 + PT + s5 + s6 by unfold stopT; rw [show max 0 p = p by omega, eNT], show stopT s4 s5 s6 s7 1 = s4 + s7 + s5 + s6 by unfold stopT; rw [show max 0 (1 : Int) = 1 by decide, Int.one_mul], hNS]; omega
  rw [eQ] at KQ
  rw [eQ2] at KE
  rw [eT] at KR
  rw [show 2 * HG = RE by omega] at KR
  rw [eS] at KS
  rw [eM] at KM
  rw [eTr] at KT
  obtain ⟨x10, x11⟩ := pb1
  obtain ⟨x20, x21⟩ := pb2
  obtain ⟨x30, x31⟩ := pb3
  obtain ⟨x40, x41⟩ := pb4
  have HQ := Lib.hid KQ
  have HE := Lib.hid KE
  have HN := Lib.hid KN2
  have HR := Lib.hid KR
  have HS := Lib.hid KS
  have HM := Lib.hid KM
  have HT := Lib.hid KT
  have tq1 : (QE == QE) = true := by simp
  have tq2 : (E2 == E2) = true := by simp
  have tq3 : (EL == EL) = true := by simp
  have tq4 : (RE == RE) = true := by simp
  have tq5 : (SE == SE) = true := by simp
  have tq6 : (M3 == M3) = true := by simp
  have tq7 : (TE == TE) = true := by simp
  clear KQ KE KN KN2 KR KS KM KT hP1 eT eQ eQ2 eM eS eTr hs hc hPT hNS hEN eNT hE2 hEL hM3 pb5
  have RS := Lib.hid hRE
  clear hRE
  have B := Lib.hid (Joins.below_alloc1 w (.cells #[.int .i64 s0, .int .i64 s1, .int .i64 s2, .int .i64 s3, .int .i64 s4, .int .i64 s5, .int .i64 s6, .int .i64 s7, .slice A n c, .int .i64 s9, .int .i64 s10, .int .i64 s11, .int .i64 s12] 57))
  go_enter Try.func7, Try.ntmps7
  go_wp2_with fail
  refine (HV.out _ B.out).mono ?_
  rintro e w1 ⟨rfl, hb1⟩
  have g1 := B.out.trans (Joins.below_le hb1 (by simp))
  have l := fun j v (h : #[(.int .i64 s0 : Value), .int .i64 s1, .int .i64 s2, .int .i64 s3, .int .i64 s4, .int .i64 s5, .int .i64 s6, .int .i64 s7, .slice A n c, .int .i64 s9, .int .i64 s10, .int .i64 s11, .int .i64 s12][j]? = some v) => keepv hb1 ((World.cell?_alloc_mark w #[(.int .i64 s0 : Value), .int .i64 s1, .int .i64 s2, .int .i64 s3, .int .i64 s4, .int .i64 s5, .int .i64 s6, .int .i64 s7, .slice A n c, .int .i64 s9, .int .i64 s10, .int .i64 s11, .int .i64 s12] 57 (0, 0) j).trans h)
  have l0 := l 0 _ rfl
  have l1 := l 1 _ rfl
  have l2 := l 2 _ rfl
  have l3 := l 3 _ rfl
  have l4 := l 4 _ rfl
  have l5 := l 5 _ rfl
  have l6 := l 6 _ rfl
  have l7 := l 7 _ rfl
  have l8 := l 8 _ rfl
  have l9 := l 9 _ rfl
  have l10 := l 10 _ rfl
  have l11 := l 11 _ rfl
  have l12 := l 12 _ rfl
  clear l hb1
  go_wp2_with fail
  simp only [List.append_eq, List.cons_append, List.nil_append]
  go_region_held3 (fun W => W.cell? ⟨w.heap.size, 0, none⟩ = some (.int .i64 s0) ∧ W.cell? ⟨w.heap.size, 1, none⟩ = some (.int .i64 s1) ∧ W.cell? ⟨w.heap.size, 2, none⟩ = some (.int .i64 s2) ∧ W.cell? ⟨w.heap.size, 3, none⟩ = some (.int .i64 s3) ∧ W.cell? ⟨w.heap.size, 4, none⟩ = some (.int .i64 s4) ∧ W.cell? ⟨w.heap.size, 5, none⟩ = some (.int .i64 s5) ∧ W.cell? ⟨w.heap.size, 6, none⟩ = some (.int .i64 s6) ∧ W.cell? ⟨w.heap.size, 7, none⟩ = some (.int .i64 s7) ∧ W.cell? ⟨w.heap.size, 8, none⟩ = some (.slice A n c) ∧ W.cell? ⟨w.heap.size, 9, none⟩ = some (.int .i64 s9) ∧ W.cell? ⟨w.heap.size, 10, none⟩ = some (.int .i64 s10) ∧ W.cell? ⟨w.heap.size, 11, none⟩ = some (.int .i64 s11) ∧ W.cell? ⟨w.heap.size, 12, none⟩ = some (.int .i64 s12))
    (go_keep)
    (first
      | (go_at_call 25; (with_reducible refine (HQ.out _).mono ?_); rintro e w2 ⟨rfl, hb2⟩; have n0 := Lib.hid (keepv hb2 l0); have n1 := Lib.hid (keepv hb2 l1); have n2 := Lib.hid (keepv hb2 l2); have n3 := Lib.hid (keepv hb2 l3); have n4 := Lib.hid (keepv hb2 l4); have n5 := Lib.hid (keepv hb2 l5); have n6 := Lib.hid (keepv hb2 l6); have n7 := Lib.hid (keepv hb2 l7); have n8 := Lib.hid (keepv hb2 l8); have n9 := Lib.hid (keepv hb2 l9); have n10 := Lib.hid (keepv hb2 l10); have n11 := Lib.hid (keepv hb2 l11); have n12 := Lib.hid (keepv hb2 l12); clear l0 l1 l2 l3 l4 l5 l6 l7 l8 l9 l10 l11 l12; have l0 := n0.out; have l1 := n1.out; have l2 := n2.out; have l3 := n3.out; have l4 := n4.out; have l5 := n5.out; have l6 := n6.out; have l7 := n7.out; have l8 := n8.out; have l9 := n9.out; have l10 := n10.out; have l11 := n11.out; have l12 := n12.out;)
      | (go_at_call 26; (with_reducible refine (HE.out _).mono ?_); rintro e w3 ⟨rfl, hb3⟩; have n0 := Lib.hid (keepv hb3 l0); have n1 := Lib.hid (keepv hb3 l1); have n2 := Lib.hid (keepv hb3 l2); have n3 := Lib.hid (keepv hb3 l3); have n4 := Lib.hid (keepv hb3 l4); have n5 := Lib.hid (keepv hb3 l5); have n6 := Lib.hid (keepv hb3 l6); have n7 := Lib.hid (keepv hb3 l7); have n8 := Lib.hid (keepv hb3 l8); have n9 := Lib.hid (keepv hb3 l9); have n10 := Lib.hid (keepv hb3 l10); have n11 := Lib.hid (keepv hb3 l11); have n12 := Lib.hid (keepv hb3 l12); clear l0 l1 l2 l3 l4 l5 l6 l7 l8 l9 l10 l11 l12; have l0 := n0.out; have l1 := n1.out; have l2 := n2.out; have l3 := n3.out; have l4 := n4.out; have l5 := n5.out; have l6 := n6.out; have l7 := n7.out; have l8 := n8.out; have l9 := n9.out; have l10 := n10.out; have l11 := n11.out; have l12 := n12.out;)
      | (go_at_call 27; (with_reducible refine (HN.out _).mono ?_); rintro e w4 ⟨rfl, hb4⟩; have n0 := Lib.hid (keepv hb4 l0); have n1 := Lib.hid (keepv hb4 l1); have n2 := Lib.hid (keepv hb4 l2); have n3 := Lib.hid (keepv hb4 l3); have n4 := Lib.hid (keepv hb4 l4); have n5 := Lib.hid (keepv hb4 l5); have n6 := Lib.hid (keepv hb4 l6); have n7 := Lib.hid (keepv hb4 l7); have n8 := Lib.hid (keepv hb4 l8); have n9 := Lib.hid (keepv hb4 l9); have n10 := Lib.hid (keepv hb4 l10); have n11 := Lib.hid (keepv hb4 l11); have n12 := Lib.hid (keepv hb4 l12); clear l0 l1 l2 l3 l4 l5 l6 l7 l8 l9 l10 l11 l12; have l0 := n0.out; have l1 := n1.out; have l2 := n2.out; have l3 := n3.out; have l4 := n4.out; have l5 := n5.out; have l6 := n6.out; have l7 := n7.out; have l8 := n8.out; have l9 := n9.out; have l10 := n10.out; have l11 := n11.out; have l12 := n12.out;)
      | (go_at_call 28; (with_reducible refine (HR.out _).mono ?_); rintro e w5 ⟨rfl, hb5⟩; have n0 := Lib.hid (keepv hb5 l0); have n1 := Lib.hid (keepv hb5 l1); have n2 := Lib.hid (keepv hb5 l2); have n3 := Lib.hid (keepv hb5 l3); have n4 := Lib.hid (keepv hb5 l4); have n5 := Lib.hid (keepv hb5 l5); have n6 := Lib.hid (keepv hb5 l6); have n7 := Lib.hid (keepv hb5 l7); have n8 := Lib.hid (keepv hb5 l8); have n9 := Lib.hid (keepv hb5 l9); have n10 := Lib.hid (keepv hb5 l10); have n11 := Lib.hid (keepv hb5 l11); have n12 := Lib.hid (keepv hb5 l12); clear l0 l1 l2 l3 l4 l5 l6 l7 l8 l9 l10 l11 l12; have l0 := n0.out; have l1 := n1.out; have l2 := n2.out; have l3 := n3.out; have l4 := n4.out; have l5 := n5.out; have l6 := n6.out; have l7 := n7.out; have l8 := n8.out; have l9 := n9.out; have l10 := n10.out; have l11 := n11.out; have l12 := n12.out;)
      | (go_at_call 29; (with_reducible refine (HS.out _).mono ?_); rintro e w6 ⟨rfl, hb6⟩; have n0 := Lib.hid (keepv hb6 l0); have n1 := Lib.hid (keepv hb6 l1); have n2 := Lib.hid (keepv hb6 l2); have n3 := Lib.hid (keepv hb6 l3); have n4 := Lib.hid (keepv hb6 l4); have n5 := Lib.hid (keepv hb6 l5); have n6 := Lib.hid (keepv hb6 l6); have n7 := Lib.hid (keepv hb6 l7); have n8 := Lib.hid (keepv hb6 l8); have n9 := Lib.hid (keepv hb6 l9); have n10 := Lib.hid (keepv hb6 l10); have n11 := Lib.hid (keepv hb6 l11); have n12 := Lib.hid (keepv hb6 l12); clear l0 l1 l2 l3 l4 l5 l6 l7 l8 l9 l10 l11 l12; have l0 := n0.out; have l1 := n1.out; have l2 := n2.out; have l3 := n3.out; have l4 := n4.out; have l5 := n5.out; have l6 := n6.out; have l7 := n7.out; have l8 := n8.out; have l9 := n9.out; have l10 := n10.out; have l11 := n11.out; have l12 := n12.out;)
      | (go_at_call 29; (with_reducible refine (HM.out _).mono ?_); rintro e w7 ⟨rfl, hb7⟩; have n0 := Lib.hid (keepv hb7 l0); have n1 := Lib.hid (keepv hb7 l1); have n2 := Lib.hid (keepv hb7 l2); have n3 := Lib.hid (keepv hb7 l3); have n4 := Lib.hid (keepv hb7 l4); have n5 := Lib.hid (keepv hb7 l5); have n6 := Lib.hid (keepv hb7 l6); have n7 := Lib.hid (keepv hb7 l7); have n8 := Lib.hid (keepv hb7 l8); have n9 := Lib.hid (keepv hb7 l9); have n10 := Lib.hid (keepv hb7 l10); have n11 := Lib.hid (keepv hb7 l11); have n12 := Lib.hid (keepv hb7 l12); clear l0 l1 l2 l3 l4 l5 l6 l7 l8 l9 l10 l11 l12; have l0 := n0.out; have l1 := n1.out; have l2 := n2.out; have l3 := n3.out; have l4 := n4.out; have l5 := n5.out; have l6 := n6.out; have l7 := n7.out; have l8 := n8.out; have l9 := n9.out; have l10 := n10.out; have l11 := n11.out; have l12 := n12.out;)
      | (go_at_call 30; (with_reducible refine (HT.out _).mono ?_); rintro e w8 ⟨rfl, hb8⟩; have n0 := Lib.hid (keepv hb8 l0); have n1 := Lib.hid (keepv hb8 l1); have n2 := Lib.hid (keepv hb8 l2); have n3 := Lib.hid (keepv hb8 l3); have n4 := Lib.hid (keepv hb8 l4); have n5 := Lib.hid (keepv hb8 l5); have n6 := Lib.hid (keepv hb8 l6); have n7 := Lib.hid (keepv hb8 l7); have n8 := Lib.hid (keepv hb8 l8); have n9 := Lib.hid (keepv hb8 l9); have n10 := Lib.hid (keepv hb8 l10); have n11 := Lib.hid (keepv hb8 l11); have n12 := Lib.hid (keepv hb8 l12); clear l0 l1 l2 l3 l4 l5 l6 l7 l8 l9 l10 l11 l12; have l0 := n0.out; have l1 := n1.out; have l2 := n2.out; have l3 := n3.out; have l4 := n4.out; have l5 := n5.out; have l6 := n6.out; have l7 := n7.out; have l8 := n8.out; have l9 := n9.out; have l10 := n10.out; have l11 := n11.out; have l12 := n12.out;)
      | (go_at_call 31; (with_reducible refine (bdalive _).mono ?_); rintro e w9 ⟨rfl, hb9⟩; have n0 := Lib.hid (keepv hb9 l0); have n1 := Lib.hid (keepv hb9 l1); have n2 := Lib.hid (keepv hb9 l2); have n3 := Lib.hid (keepv hb9 l3); have n4 := Lib.hid (keepv hb9 l4); have n5 := Lib.hid (keepv hb9 l5); have n6 := Lib.hid (keepv hb9 l6); have n7 := Lib.hid (keepv hb9 l7); have n8 := Lib.hid (keepv hb9 l8); have n9 := Lib.hid (keepv hb9 l9); have n10 := Lib.hid (keepv hb9 l10); have n11 := Lib.hid (keepv hb9 l11); have n12 := Lib.hid (keepv hb9 l12); clear l0 l1 l2 l3 l4 l5 l6 l7 l8 l9 l10 l11 l12; have l0 := n0.out; have l1 := n1.out; have l2 := n2.out; have l3 := n3.out; have l4 := n4.out; have l5 := n5.out; have l6 := n6.out; have l7 := n7.out; have l8 := n8.out; have l9 := n9.out; have l10 := n10.out; have l11 := n11.out; have l12 := n12.out;))
  go_wp2_with fail
  all_goals
    have y2 := (g1.drew).trans (hb2.mono (g1.drew).size)
    have y3 := y2.trans (hb3.mono y2.size)
    have y4 := y3.trans (hb4.mono y3.size)
    have y5 := y4.trans (hb5.mono y4.size)
    have y6 := y5.trans (hb6.mono y5.size)
    have y7 := y6.trans (hb7.mono y6.size)
    have y8 := y7.trans (hb8.mono y7.size)
    have y9 := y8.trans (hb9.mono y8.size)
    go_ret
    exact ⟨rfl, y9⟩
end Go.Proofs.Ytjokekohmncmkac
