/- The walk of WindowsSums: it answers true for every input, and leaves all old blocks as they were. No condition. -/
import Derived.Test.YteebeiflipfbkaaRows
import Derived.Test.YteebeiflipfbkaaRowKit
import Derived.Test.YteebeiflipfbkaaRowS
import Derived.Test.YteebeiflipfbkaaRowZ
import Derived.Test.YteebeiflipfbkaaSlicesEq
import Derived.Test.YteebeiflipfbkaaRowL
import Derived.Test.YteebeiflipfbkaaRowM
import Derived.Test.YteebeiflipfbkaaBlocks
import Derived.Test.YteebeiflipfbkaaWinMath
import Derived.Test.YteebeiflipfbkaaSlicesEqM
import Derived.Test.YteebeiflipfbkaaMakeI
import Derived.Test.YteebeiflipfbkaaPulseMath
import Derived.Test.YteebeiflipfbkaaPulseA
import Derived.Test.YteebeiflipfbkaaWindowsA
import Derived.Test.YteebeiflipfbkaaWindowsB
import Derived.Test.YteebeiflipfbkaaWindowsC
import Derived.Test.YteebeiflipfbkaaWindowsD
import Derived.Test.YteebeiflipfbkaaWindowsE
import Derived.WalkKit
import Derived.ProofKit
import Derived.OpenShut
import Derived.Deep.QuietTactic
import Derived.BigQuiet
import Derived.Lib.SmallJoins
import Derived.Lib.Hide
import Derived.WalkSpells
import Derived.WalkLawsBesides
import Derived.Deep.RegionHeld3
import Derived.Deep.LoopGhost
import Derived.Laws.OwnMore
import Derived.Laws.MakeOwn
import Derived.Laws.CopyOwn
import Derived.OwnWalk
import Derived.IntWalk
namespace Go.Proofs.Yteebeiflipfbkaa.windowsSums
open Go.ChangeShapes Go.WideShapes Go.ChangeAt Go.RowKit Go.Joins
set_option linter.unusedSimpArgs false
set_option linter.unusedVariables false

theorem col_win {R : Nat → Nat → Int} {W H : Int} {j : Nat} (h0 : j ≠ 0) (h1 : j ≠ 1) (h6 : j ≠ 6) : ∀ n, colV (winF R W H) j n = colV R j n
  | 0 => rfl
  | n + 1 => by
    show colV (winF R W H) j n + winF R W H n j = colV R j n + R n j
    rw [col_win h0 h1 h6 n]
    unfold winF
    rw [if_neg h0, if_neg h1, if_neg h6]
set_option maxRecDepth 100000 in
set_option maxHeartbeats 8000000 in
theorem walk_in (A : Option Addr) (c n : Nat) (z : Nat → Nat → Int) (W H : Int) (w : World) (hr : RdZ w 7 A n z) (hm : n ≤ 9223372036854775807) (hW : 1 ≤ W) (hW' : W ≤ 9223372036854775807) (hH : 1 ≤ H) (hH' : H ≤ 1073741824) (hq : H / W ≤ 200) :
    Calls Try.prog 5 #[.slice A n c, .int .i64 W, .int .i64 H] w fun e w' => e = .returned (.bool true) ∧ Below w.heap.size w w' := by
  have G := Lib.hid (tgreat72 A c n z w hr hm)
  have hz : (W == 0) = false := by rw [beq_eq_false_iff_ne]; omega
  have q0 : 0 ≤ H / W := Int.ediv_nonneg (by omega) (by omega)
  have HR := Lib.hid hr
  obtain ⟨N, hN⟩ : ∃ N, manyP W H = N := ⟨_, rfl⟩
  have me := many_eq hW (by omega) hN
  have N200 : N ≤ 201 := by omega
  have le := many_le hW (by omega) hN
  have N1 : 1 ≤ N := by
    rcases Nat.eq_zero_or_pos N with h | h
    · rw [h] at le; simp at le; omega
    · exact h
  obtain ⟨l, rfl⟩ : ∃ l, N = l + 1 := ⟨N - 1, by omega⟩
  have AL := Lib.hid (fun X (h : RdZ X 7 A n z) (hn : n ≤ 100) (hb : TripB z n) => all_any A c n z W H (l + 1) X h hn hW hW' (by omega) (by omega) hN (by omega) hb)
  have e0 : winF (rowsV W H (l + 1) z n) W H 0 0 = 0 := by unfold winF; rw [if_pos rfl]; simp
  have e1 : winF (rowsV W H (l + 1) z n) W H l 1 = H := by
    unfold winF
    rw [if_neg (by omega), if_pos rfl]
    unfold toV
    rw [Int.natCast_add, Int.add_mul] at le
    omega
  have e2 : colV (winF (rowsV W H (l + 1) z n) W H) 2 (l + 1) = ofC 0 H z n := by rw [col_win (by omega) (by omega) (by omega)]; exact all_C hW le n
  have e3 : colV (winF (rowsV W H (l + 1) z n) W H) 3 (l + 1) = ofI 0 H z n := by rw [col_win (by omega) (by omega) (by omega)]; exact all_I hW le n
  have e4 : colV (winF (rowsV W H (l + 1) z n) W H) 4 (l + 1) = ofO 0 H z n := by rw [col_win (by omega) (by omega) (by omega)]; exact all_O hW le n
  have e5 : colV (winF (rowsV W H (l + 1) z n) W H) 5 (l + 1) = ofW 0 H z n := by rw [col_win (by omega) (by omega) (by omega)]; exact all_W hW le n
  have e6 : winF (rowsV W H (l + 1) z n) W H l 6 = ofB 0 H z n := by
    unfold winF
    rw [if_neg (by omega), if_neg (by omega), if_pos rfl]
    exact all_B hW le hH n
  have SB := Lib.hid (fun (hn : n ≤ 100) (hb : TripB z n) i j (hi : i < l + 1) (h2 : 2 ≤ j) (h6 : j < 6) => show -1099511627776 ≤ winF (rowsV W H (l + 1) z n) W H i j ∧ winF (rowsV W H (l + 1) z n) W H i j ≤ 1099511627776 from by
    have s := rowsV_sm (W := W) (H := H) (N := l + 1) hb n (Nat.le_refl n) i j
    unfold winF
    rw [if_neg (by omega), if_neg (by omega), if_neg (by omega)]
    omega)
  obtain ⟨y, hy⟩ : ∃ y, winF (rowsV W H (l + 1) z n) W H = y := ⟨_, rfl⟩
  simp only [hy] at AL e0 e1 e2 e3 e4 e5 e6 SB
  have OF := Lib.hid (fun X (h : RdZ X 7 A n z) (hn : n ≤ 100) (hb : TripB z n) => of_any A c n z 0 H X h hn hb)
  have SU := Lib.hid (fun A' c' X (h : RdZ X 7 A' (l + 1) y) (hn : n ≤ 100) (hb : TripB z n) => sum_any A' c' l (l + 1) y X h (by omega) (by omega) (SB.out hn hb))
  rw [e0, e1, e2, e3, e4, e5, e6] at SU
  obtain ⟨x2, h2⟩ : ∃ x, ofC 0 H z n = x := ⟨_, rfl⟩
  obtain ⟨x3, h3⟩ : ∃ x, ofI 0 H z n = x := ⟨_, rfl⟩
  obtain ⟨x4, h4⟩ : ∃ x, ofO 0 H z n = x := ⟨_, rfl⟩
  obtain ⟨x5, h5⟩ : ∃ x, ofW 0 H z n = x := ⟨_, rfl⟩
  obtain ⟨x6, h6⟩ : ∃ x, ofB 0 H z n = x := ⟨_, rfl⟩
  rw [h2, h3, h4, h5, h6] at SU OF
  clear hr hN me le e0 e1 e2 e3 e4 e5 e6 hy SB h2 h3 h4 h5 h6 N200 N1
  go_enter Try.func5, Try.ntmps5
  go_wp2_with fail
  refine G.out.mono ?_
  rintro e w1 ⟨g, rfl, hb1, hg⟩
  have B1 := Lib.hid hb1
  have R1 := Lib.hid (HR.out.kept hb1)
  clear hb1 G HR
  cases g
  case true =>
    clear hg
    go_wp2_with fail
    go_ret
    exact ⟨rfl, B1.out⟩
  obtain ⟨hn, hTB⟩ := hg rfl
  have TB := Lib.hid hTB
  clear hg hTB
  have hq2 : ¬ (200 < H / W) := by omega
  go_wp2_with fail
  refine (AL.out _ R1.out hn TB.out).mono ?_
  rintro e w2 ⟨A2, c2, rfl, hc2, hR2, hb2⟩
  have B2 := Lib.hid (B1.out.trans (hb2.mono B1.out.size))
  have R2 := Lib.hid (R1.out.kept hb2)
  have RY := Lib.hid hR2
  clear hb2 hR2 AL R1
  go_wp2_with fail
  refine (SU.out _ _ _ RY.out hn TB.out).mono ?_
  rintro e w3 ⟨rfl, hb3⟩
  have B3 := B2.out.trans (hb3.mono B2.out.size)
  have R3 := R2.out.kept hb3
  have XX := Blk.new w3 #[.int .i64 0, .int .i64 H, .int .i64 x2, .int .i64 x3, .int .i64 x4, .int .i64 x5, .int .i64 x6] 49
  have B4 := B3.alloc B3.size (.cells #[.int .i64 0, .int .i64 H, .int .i64 x2, .int .i64 x3, .int .i64 x4, .int .i64 x5, .int .i64 x6] 49)
  have R4 := R3.kept ((Below.refl w3.heap.size w3).alloc (Nat.le_refl _) (.cells #[.int .i64 0, .int .i64 H, .int .i64 x2, .int .i64 x3, .int .i64 x4, .int .i64 x5, .int .i64 x6] 49))
  have XX := Lib.hid XX
  have B4 := Lib.hid B4
  have R4 := Lib.hid R4
  clear hb3 B3 R3 SU R2 RY
  go_wp2_with fail
  obtain ⟨V, hV⟩ : ∃ V, w3.alloc (.cells #[.int .i64 0, .int .i64 H, .int .i64 x2, .int .i64 x3, .int .i64 x4, .int .i64 x5, .int .i64 x6] 49) = V := ⟨_, rfl⟩
  obtain ⟨gx, hgx⟩ : ∃ g, w3.heap.size = g := ⟨_, rfl⟩
  rw [hV] at XX B4 R4 ⊢
  rw [hgx] at XX ⊢
  clear hV hgx
  have x0c := XX.out.cell 0
  have x1c := XX.out.cell 1
  have x2c := XX.out.cell 2
  have x3c := XX.out.cell 3
  have x4c := XX.out.cell 4
  have x5c := XX.out.cell 5
  have x6c := XX.out.cell 6
  have R5 := Lib.hid (R4.out.kept (Below.refl V.heap.size V).drew)
  have B5 := Lib.hid B4.out.drew
  have AV := Lib.hid (fun X => alive72 X)
  go_region_held3 (fun W => W.cell? ⟨gx, 0, none⟩ = some (.int .i64 0) ∧ W.cell? ⟨gx, 1, none⟩ = some (.int .i64 H) ∧ W.cell? ⟨gx, 2, none⟩ = some (.int .i64 x2) ∧ W.cell? ⟨gx, 3, none⟩ = some (.int .i64 x3) ∧ W.cell? ⟨gx, 4, none⟩ = some (.int .i64 x4) ∧ W.cell? ⟨gx, 5, none⟩ = some (.int .i64 x5) ∧ W.cell? ⟨gx, 6, none⟩ = some (.int .i64 x6))
    (go_keep)
    (first
      | (go_at_call 28; refine (OF.out _ R5.out hn TB.out).mono ?_; rintro e v1 ⟨rfl, hb⟩; have B6 := Lib.hid (B5.out.trans (hb.mono B5.out.size)); have n0 := Lib.hid (hb.cell (p := ⟨gx, 0, none⟩) (lt_of_cell x0c)); have n1 := Lib.hid (hb.cell (p := ⟨gx, 1, none⟩) (lt_of_cell x1c)); have n2 := Lib.hid (hb.cell (p := ⟨gx, 2, none⟩) (lt_of_cell x2c)); have n3 := Lib.hid (hb.cell (p := ⟨gx, 3, none⟩) (lt_of_cell x3c)); have n4 := Lib.hid (hb.cell (p := ⟨gx, 4, none⟩) (lt_of_cell x4c)); have n5 := Lib.hid (hb.cell (p := ⟨gx, 5, none⟩) (lt_of_cell x5c)); have n6 := Lib.hid (hb.cell (p := ⟨gx, 6, none⟩) (lt_of_cell x6c)); have y0 : v1.cell? ⟨gx, 0, none⟩ = some (.int .i64 0) := n0.out.trans x0c; have y1 : v1.cell? ⟨gx, 1, none⟩ = some (.int .i64 H) := n1.out.trans x1c; have y2 : v1.cell? ⟨gx, 2, none⟩ = some (.int .i64 x2) := n2.out.trans x2c; have y3 : v1.cell? ⟨gx, 3, none⟩ = some (.int .i64 x3) := n3.out.trans x3c; have y4 : v1.cell? ⟨gx, 4, none⟩ = some (.int .i64 x4) := n4.out.trans x4c; have y5 : v1.cell? ⟨gx, 5, none⟩ = some (.int .i64 x5) := n5.out.trans x5c; have y6 : v1.cell? ⟨gx, 6, none⟩ = some (.int .i64 x6) := n6.out.trans x6c)
      | (go_at_call 29; refine (AV.out _).mono ?_; rintro e v2 ⟨rfl, hb2⟩; have B7 := Lib.hid (B6.out.trans (hb2.mono B6.out.size)); have m0 := Lib.hid (hb2.cell (p := ⟨gx, 0, none⟩) (lt_of_cell y0)); have m1 := Lib.hid (hb2.cell (p := ⟨gx, 1, none⟩) (lt_of_cell y1)); have m2 := Lib.hid (hb2.cell (p := ⟨gx, 2, none⟩) (lt_of_cell y2)); have m3 := Lib.hid (hb2.cell (p := ⟨gx, 3, none⟩) (lt_of_cell y3)); have m4 := Lib.hid (hb2.cell (p := ⟨gx, 4, none⟩) (lt_of_cell y4)); have m5 := Lib.hid (hb2.cell (p := ⟨gx, 5, none⟩) (lt_of_cell y5)); have m6 := Lib.hid (hb2.cell (p := ⟨gx, 6, none⟩) (lt_of_cell y6)); have u0 : v2.cell? ⟨gx, 0, none⟩ = some (.int .i64 0) := m0.out.trans y0; have u1 : v2.cell? ⟨gx, 1, none⟩ = some (.int .i64 H) := m1.out.trans y1; have u2 : v2.cell? ⟨gx, 2, none⟩ = some (.int .i64 x2) := m2.out.trans y2; have u3 : v2.cell? ⟨gx, 3, none⟩ = some (.int .i64 x3) := m3.out.trans y3; have u4 : v2.cell? ⟨gx, 4, none⟩ = some (.int .i64 x4) := m4.out.trans y4; have u5 : v2.cell? ⟨gx, 5, none⟩ = some (.int .i64 x5) := m5.out.trans y5; have u6 : v2.cell? ⟨gx, 6, none⟩ = some (.int .i64 x6) := m6.out.trans y6))
  go_wp2_with fail
  go_ret
  exact ⟨rfl, B7.out⟩
set_option maxRecDepth 100000 in
set_option maxHeartbeats 4000000 in
theorem walk {A : Option Addr} {c n : Nat} {z : Nat → Nat → Int} {W H : Int} {w : World} (hc : n ≤ c) (hm : c ≤ maxLen) (hr : RdZ w 7 A n z) (_ : A = none → c = 0) (w1 : (Lit.int .i64 W).wf = true) (w2 : (Lit.int .i64 H).wf = true) :
    Calls Try.prog 5 #[.slice A n c, .int .i64 W, .int .i64 H] w fun e w' => e = .returned (.bool true) ∧ Below w.heap.size w w' := by
  obtain ⟨a1, a2⟩ := bounds_i64 w1
  obtain ⟨b1, b2⟩ := bounds_i64 w2
  unfold maxLen at hm
  by_cases g : 1 ≤ W ∧ 1 ≤ H ∧ H ≤ 1073741824 ∧ H / W ≤ 200
  · exact walk_in A c n z W H w hr (by omega) g.1 a2 g.2.1 g.2.2.1 g.2.2.2
  · have G := Lib.hid (tgreat72 A c n z w hr (by omega))
    have d : W < 1 ∨ (1 ≤ W ∧ H < 1) ∨ (1 ≤ W ∧ 1 ≤ H ∧ 1073741824 < H) ∨ (1 ≤ W ∧ 1 ≤ H ∧ H ≤ 1073741824 ∧ 200 < H / W) := by
      by_cases h1 : 1 ≤ W
      · by_cases h2 : 1 ≤ H
        · by_cases h3 : H ≤ 1073741824
          · refine .inr (.inr (.inr ⟨h1, h2, h3, ?_⟩))
            by_cases h4 : H / W ≤ 200
            · exact absurd ⟨h1, h2, h3, h4⟩ g
            · omega
          · exact .inr (.inr (.inl ⟨h1, h2, by omega⟩))
        · exact .inr (.inl ⟨h1, by omega⟩)
      · exact .inl (by omega)
    clear g hr
    rcases d with h1 | ⟨h1, h2⟩ | ⟨h1, h2, h3⟩ | ⟨h1, h2, h3, h4⟩
    all_goals
      try have hz : (W == 0) = false := by rw [beq_eq_false_iff_ne]; omega
      go_enter Try.func5, Try.ntmps5
      go_wp2_with fail
      refine G.out.mono ?_
      rintro e w1 ⟨g, rfl, hb1, _⟩
      have B1 := Lib.hid hb1
      clear hb1 G
      cases g
      all_goals
        go_wp2_with fail
        go_ret
        exact ⟨rfl, B1.out⟩

end Go.Proofs.Yteebeiflipfbkaa.windowsSums
