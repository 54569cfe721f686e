/- What a car sees, which way it faces and whether it stops, as the document has it. -/
import Derived.Test.YtffcmfpadaebdaaFaceB
import Derived.Test.YtffcmfpadaebdaaCarM
import Derived.Test.YtffcmfpadaebdaaWantM
import Derived.Test.YtffcmfpadaebdaaRows
import Derived.Test.YtffcmfpadaebdaaKitM
import Derived.Test.YtffcmfpadaebdaaBitM
import Derived.Laws.AppendOwnNone
import Derived.WalkKit
import Derived.OwnWalk
import Derived.Laws.MakeOwn
import Derived.Laws.OwnMore
import Derived.Deep.LoopGhost
import Derived.IntWalk
import Derived.Lib.Hide
import Derived.WalkSpells
import Derived.WalkLawsBesides
import Derived.Laws.CopyOwn
import Derived.Deep.QuietTactic
import Derived.Deep.RegionHeld3
import Derived.BigQuiet
import Derived.BigRegion
namespace Go.Proofs.Ytffcmfpadaebdaa
open Go.RowKit
set_option linter.unusedSimpArgs false
set_option linter.unusedVariables false
theorem rbL_ne (F : Nat → Bool) (f d : Int) : (0 < (rbL F f d).length ∧ neF (byF F f d) = true) ∨ ((rbL F f d).length = 0 ∧ neF (byF F f d) = false) := by
  by_cases h : 0 < (rbL F f d).length
  · refine .inl ⟨h, (neF_iff _).2 ?_⟩
    obtain ⟨m, h1, h2, _⟩ := (rbL_mem F f d _).1 (zat_mem h)
    exact ⟨m, h1, h2⟩
  · refine .inr ⟨by omega, ?_⟩
    cases hb : neF (byF F f d)
    · rfl
    · obtain ⟨j, hj, hg⟩ := (neF_iff _).1 hb
      have hm := (rbL_mem F f d j).2 ⟨j, hj, hg, rfl⟩
      have := List.length_pos_of_mem hm
      omega
set_option maxRecDepth 100000 in
set_option maxHeartbeats 1000000 in
theorem rcall31_any (W U D : Nat → Bool) (f d : Int) (w : World) : Calls Try.prog 36 #[sgtV W U D, .int .i64 f, .int .i64 d] w fun e w' => e = .returned (.bool (callF U D f d)) ∧ Below w.heap.size w w' := by
  have HU := fun w => rhas_any U f w
  have HD := fun w => rhas_any D f w
  unfold sgtV callF
  unfold setV at HU HD
  obtain ⟨w0, hw0⟩ : ∃ x, wordX W = x := ⟨_, rfl⟩
  obtain ⟨w1, hw1⟩ : ∃ x, wordY W = x := ⟨_, rfl⟩
  obtain ⟨u0, hu0⟩ : ∃ x, wordX U = x := ⟨_, rfl⟩
  obtain ⟨u1, hu1⟩ : ∃ x, wordY U = x := ⟨_, rfl⟩
  obtain ⟨d0, hd0⟩ : ∃ x, wordX D = x := ⟨_, rfl⟩
  obtain ⟨d1, hd1⟩ : ∃ x, wordY D = x := ⟨_, rfl⟩
  simp only [hw0, hw1, hu0, hu1, hd0, hd1] at HU HD ⊢
  have HUh := Lib.hid HU
  have HDh := Lib.hid HD
  clear hw0 hw1 hu0 hu1 hd0 hd1 HU HD
  obtain ⟨bu, hbu⟩ : ∃ b, hasF U f = b := ⟨_, rfl⟩
  obtain ⟨bd, hbd⟩ : ∃ b, hasF D f = b := ⟨_, rfl⟩
  rw [hbu] at HUh ⊢
  rw [hbd] at HDh ⊢
  clear hbu hbd
  rcases (show 0 < d ∨ d < 0 ∨ d = 0 by omega) with h | h | h
  · rw [if_pos h]
    cases bu
    all_goals (
      go_enter Try.func36, Try.ntmps36
      go_wp2_with fail
      refine (HUh.out _).mono ?_
      rintro e w2 ⟨rfl, hb⟩
      have E2 := Lib.hid (((Below.refl w.heap.size w).alloc (Nat.le_refl _) (.cells #[.int .u64 w0, .int .u64 w1, .int .u64 u0, .int .u64 u1, .int .u64 d0, .int .u64 d1] 43)).trans (hb.mono (by simp)))
      clear hb
      go_wp2_with fail
      go_ret
      exact ⟨rfl, E2.out⟩)
  · rw [if_neg (by omega), if_pos h]
    cases bd
    all_goals (
      go_enter Try.func36, Try.ntmps36
      go_wp2_with fail
      refine (HDh.out _).mono ?_
      rintro e w2 ⟨rfl, hb⟩
      have E2 := Lib.hid (((Below.refl w.heap.size w).alloc (Nat.le_refl _) (.cells #[.int .u64 w0, .int .u64 w1, .int .u64 u0, .int .u64 u1, .int .u64 d0, .int .u64 d1] 43)).trans (hb.mono (by simp)))
      clear hb
      go_wp2_with fail
      go_ret
      exact ⟨rfl, E2.out⟩)
  · rw [if_neg (by omega), if_neg (by omega)]
    subst h
    go_enter Try.func36, Try.ntmps36
    go_wp2_with fail
    go_ret
    exact ⟨rfl, (Below.refl w.heap.size w).alloc (Nat.le_refl _) _⟩
set_option maxRecDepth 100000 in
set_option maxHeartbeats 1000000 in
theorem rbey31_any (W U D : Nat → Bool) (f d : Int) (w : World) : Calls Try.prog 37 #[sgtV W U D, .int .i64 f, .int .i64 d] w fun e w' => e = .returned (.bool (neF (byF W f d))) ∧ Below w.heap.size w w' := by
  have BY := fun w => rbeyond_any W f d w
  have NE := rbL_ne W f d
  have LE := rbL_len W f d
  unfold sgtV
  unfold setV at BY
  obtain ⟨w0, hw0⟩ : ∃ x, wordX W = x := ⟨_, rfl⟩
  obtain ⟨w1, hw1⟩ : ∃ x, wordY W = x := ⟨_, rfl⟩
  obtain ⟨u0, hu0⟩ : ∃ x, wordX U = x := ⟨_, rfl⟩
  obtain ⟨u1, hu1⟩ : ∃ x, wordY U = x := ⟨_, rfl⟩
  obtain ⟨d0, hd0⟩ : ∃ x, wordX D = x := ⟨_, rfl⟩
  obtain ⟨d1, hd1⟩ : ∃ x, wordY D = x := ⟨_, rfl⟩
  obtain ⟨l, hl⟩ : ∃ l, rbL W f d = l := ⟨_, rfl⟩
  obtain ⟨N, hN⟩ : ∃ N, l.length = N := ⟨_, rfl⟩
  obtain ⟨bb, hbb⟩ : ∃ b, neF (byF W f d) = b := ⟨_, rfl⟩
  simp only [hw0, hw1, hu0, hu1, hd0, hd1, hl, hN, hbb] at BY NE LE ⊢
  have BYh := Lib.hid BY
  clear hw0 hw1 hu0 hu1 hd0 hd1 hl hN hbb BY
  rcases NE with ⟨h, rfl⟩ | ⟨h, rfl⟩
  all_goals (
    go_enter Try.func37, Try.ntmps37
    go_wp2_with fail
    refine (BYh.out _).mono ?_
    rintro e w2 ⟨LA, LC, rfl, _, hb⟩
    have E2 := Lib.hid (((Below.refl w.heap.size w).alloc (Nat.le_refl _) (.cells #[.int .u64 w0, .int .u64 w1, .int .u64 u0, .int .u64 u1, .int .u64 d0, .int .u64 d1] 43)).trans (hb.mono (by simp)))
    clear hb
    go_wp2_with fail
    go_ret
    exact ⟨by first | rfl | (congr 2; simp; omega), E2.out⟩)
set_option maxRecDepth 100000 in
set_option maxHeartbeats 4000000 in
theorem rofS_any (W U D : Nat → Bool) (f d : Int) (w : World) (hd : d = 0 ∨ d = 1 ∨ d = -1) : Calls Try.prog 19 #[sgtV W U D, .int .i64 f, .int .i64 d] w fun e w' => e = .returned (.int .i64 (ofWay W U D f d)) ∧ Below w.heap.size w w' := by
  have C1 := fun w => rcall31_any W U D f 1 w
  have C2 := fun w => rcall31_any W U D f (-1) w
  have Y1 := fun w => rbey31_any W U D f 1 w
  have Y2 := fun w => rbey31_any W U D f (-1) w
  unfold ofWay bgF
  unfold sgtV at C1 C2 Y1 Y2 ⊢
  obtain ⟨w0, hw0⟩ : ∃ x, wordX W = x := ⟨_, rfl⟩
  obtain ⟨w1, hw1⟩ : ∃ x, wordY W = x := ⟨_, rfl⟩
  obtain ⟨u0, hu0⟩ : ∃ x, wordX U = x := ⟨_, rfl⟩
  obtain ⟨u1, hu1⟩ : ∃ x, wordY U = x := ⟨_, rfl⟩
  obtain ⟨d0, hd0⟩ : ∃ x, wordX D = x := ⟨_, rfl⟩
  obtain ⟨d1, hd1⟩ : ∃ x, wordY D = x := ⟨_, rfl⟩
  simp only [hw0, hw1, hu0, hu1, hd0, hd1] at C1 C2 Y1 Y2 ⊢
  clear hw0 hw1 hu0 hu1 hd0 hd1
  rcases hd with rfl | rfl | rfl
  · obtain ⟨c1, hc1⟩ : ∃ b, callF U D f 1 = b := ⟨_, rfl⟩
    obtain ⟨c2, hc2⟩ : ∃ b, callF U D f (-1) = b := ⟨_, rfl⟩
    obtain ⟨y1, hy1⟩ : ∃ b, neF (byF W f 1) = b := ⟨_, rfl⟩
    obtain ⟨y2, hy2⟩ : ∃ b, neF (byF W f (-1)) = b := ⟨_, rfl⟩
    have o1 : othF 1 = -1 := rfl
    have o2 : othF (-1) = 1 := rfl
    simp only [hc1, hc2, hy1, hy2, o1, o2, if_true, Int.reduceEq, Int.reduceNeg, if_false, ite_true, ite_false, reduceIte] at C1 C2 Y1 Y2 ⊢
    have C1h := Lib.hid C1; have C2h := Lib.hid C2; have Y1h := Lib.hid Y1; have Y2h := Lib.hid Y2
    clear hc1 hc2 hy1 hy2 o1 o2 C1 C2 Y1 Y2
    go_enter Try.func19, Try.ntmps19
    go_wp2_with fail
    have BS := Blk.new w #[.int .u64 w0, .int .u64 w1, .int .u64 u0, .int .u64 u1, .int .u64 d0, .int .u64 d1] 43
    have BE : Below w.heap.size w (w.alloc (.cells #[.int .u64 w0, .int .u64 w1, .int .u64 u0, .int .u64 u1, .int .u64 d0, .int .u64 d1] 43)) := (Below.refl w.heap.size w).alloc (Nat.le_refl _) _
    obtain ⟨V0, hV0⟩ : ∃ V, (w.alloc (.cells #[.int .u64 w0, .int .u64 w1, .int .u64 u0, .int .u64 u1, .int .u64 d0, .int .u64 d1] 43)) = V := ⟨_, rfl⟩
    rw [hV0] at BS BE ⊢
    have HS := Lib.hid BS
    have EE := Lib.hid BE
    clear hV0 BE BS
    have kS0 : V0.cell? ⟨w.heap.size, 0, none⟩ = some (.int .u64 w0) := HS.out.cell 0
    have kS1 : V0.cell? ⟨w.heap.size, 1, none⟩ = some (.int .u64 w1) := HS.out.cell 1
    have kS2 : V0.cell? ⟨w.heap.size, 2, none⟩ = some (.int .u64 u0) := HS.out.cell 2
    have kS3 : V0.cell? ⟨w.heap.size, 3, none⟩ = some (.int .u64 u1) := HS.out.cell 3
    have kS4 : V0.cell? ⟨w.heap.size, 4, none⟩ = some (.int .u64 d0) := HS.out.cell 4
    have kS5 : V0.cell? ⟨w.heap.size, 5, none⟩ = some (.int .u64 d1) := HS.out.cell 5
    refine (C1h.out _).mono ?_
    rintro e v1 ⟨rfl, hb⟩
    clear kS0 kS1 kS2 kS3 kS4 kS5
    have HS := Lib.hid (Blk.next (w := V0) HS.out hb)
    have EE := Lib.hid (EE.out.trans (hb.mono EE.out.size))
    clear hb
    have kS0 : v1.cell? ⟨w.heap.size, 0, none⟩ = some (.int .u64 w0) := HS.out.cell 0
    have kS1 : v1.cell? ⟨w.heap.size, 1, none⟩ = some (.int .u64 w1) := HS.out.cell 1
    have kS2 : v1.cell? ⟨w.heap.size, 2, none⟩ = some (.int .u64 u0) := HS.out.cell 2
    have kS3 : v1.cell? ⟨w.heap.size, 3, none⟩ = some (.int .u64 u1) := HS.out.cell 3
    have kS4 : v1.cell? ⟨w.heap.size, 4, none⟩ = some (.int .u64 d0) := HS.out.cell 4
    have kS5 : v1.cell? ⟨w.heap.size, 5, none⟩ = some (.int .u64 d1) := HS.out.cell 5
    cases c1
    · go_wp2_with fail
      refine (C2h.out _).mono ?_
      rintro e v2 ⟨rfl, hb⟩
      clear kS0 kS1 kS2 kS3 kS4 kS5
      have HS := Lib.hid (Blk.next (w := v1) HS.out hb)
      have EE := Lib.hid (EE.out.trans (hb.mono EE.out.size))
      clear hb
      have kS0 : v2.cell? ⟨w.heap.size, 0, none⟩ = some (.int .u64 w0) := HS.out.cell 0
      have kS1 : v2.cell? ⟨w.heap.size, 1, none⟩ = some (.int .u64 w1) := HS.out.cell 1
      have kS2 : v2.cell? ⟨w.heap.size, 2, none⟩ = some (.int .u64 u0) := HS.out.cell 2
      have kS3 : v2.cell? ⟨w.heap.size, 3, none⟩ = some (.int .u64 u1) := HS.out.cell 3
      have kS4 : v2.cell? ⟨w.heap.size, 4, none⟩ = some (.int .u64 d0) := HS.out.cell 4
      have kS5 : v2.cell? ⟨w.heap.size, 5, none⟩ = some (.int .u64 d1) := HS.out.cell 5
      cases c2
      · go_wp2_with fail
        refine (C1h.out _).mono ?_
        rintro e v3 ⟨rfl, hb⟩
        clear kS0 kS1 kS2 kS3 kS4 kS5
        have HS := Lib.hid (Blk.next (w := v2) HS.out hb)
        have EE := Lib.hid (EE.out.trans (hb.mono EE.out.size))
        clear hb
        have kS0 : v3.cell? ⟨w.heap.size, 0, none⟩ = some (.int .u64 w0) := HS.out.cell 0
        have kS1 : v3.cell? ⟨w.heap.size, 1, none⟩ = some (.int .u64 w1) := HS.out.cell 1
        have kS2 : v3.cell? ⟨w.heap.size, 2, none⟩ = some (.int .u64 u0) := HS.out.cell 2
        have kS3 : v3.cell? ⟨w.heap.size, 3, none⟩ = some (.int .u64 u1) := HS.out.cell 3
        have kS4 : v3.cell? ⟨w.heap.size, 4, none⟩ = some (.int .u64 d0) := HS.out.cell 4
        have kS5 : v3.cell? ⟨w.heap.size, 5, none⟩ = some (.int .u64 d1) := HS.out.cell 5
        go_wp2_with fail
        refine (Y1h.out _).mono ?_
        rintro e v4 ⟨rfl, hb⟩
        clear kS0 kS1 kS2 kS3 kS4 kS5
        have HS := Lib.hid (Blk.next (w := v3) HS.out hb)
        have EE := Lib.hid (EE.out.trans (hb.mono EE.out.size))
        clear hb
        have kS0 : v4.cell? ⟨w.heap.size, 0, none⟩ = some (.int .u64 w0) := HS.out.cell 0
        have kS1 : v4.cell? ⟨w.heap.size, 1, none⟩ = some (.int .u64 w1) := HS.out.cell 1
        have kS2 : v4.cell? ⟨w.heap.size, 2, none⟩ = some (.int .u64 u0) := HS.out.cell 2
        have kS3 : v4.cell? ⟨w.heap.size, 3, none⟩ = some (.int .u64 u1) := HS.out.cell 3
        have kS4 : v4.cell? ⟨w.heap.size, 4, none⟩ = some (.int .u64 d0) := HS.out.cell 4
        have kS5 : v4.cell? ⟨w.heap.size, 5, none⟩ = some (.int .u64 d1) := HS.out.cell 5
        cases y1
        · go_wp2_with fail
          refine (C2h.out _).mono ?_
          rintro e v5 ⟨rfl, hb⟩
          clear kS0 kS1 kS2 kS3 kS4 kS5
          have HS := Lib.hid (Blk.next (w := v4) HS.out hb)
          have EE := Lib.hid (EE.out.trans (hb.mono EE.out.size))
          clear hb
          have kS0 : v5.cell? ⟨w.heap.size, 0, none⟩ = some (.int .u64 w0) := HS.out.cell 0
          have kS1 : v5.cell? ⟨w.heap.size, 1, none⟩ = some (.int .u64 w1) := HS.out.cell 1
          have kS2 : v5.cell? ⟨w.heap.size, 2, none⟩ = some (.int .u64 u0) := HS.out.cell 2
          have kS3 : v5.cell? ⟨w.heap.size, 3, none⟩ = some (.int .u64 u1) := HS.out.cell 3
          have kS4 : v5.cell? ⟨w.heap.size, 4, none⟩ = some (.int .u64 d0) := HS.out.cell 4
          have kS5 : v5.cell? ⟨w.heap.size, 5, none⟩ = some (.int .u64 d1) := HS.out.cell 5
          go_wp2_with fail
          refine (Y2h.out _).mono ?_
          rintro e v6 ⟨rfl, hb⟩
          clear kS0 kS1 kS2 kS3 kS4 kS5
          have HS := Lib.hid (Blk.next (w := v5) HS.out hb)
          have EE := Lib.hid (EE.out.trans (hb.mono EE.out.size))
          clear hb
          have kS0 : v6.cell? ⟨w.heap.size, 0, none⟩ = some (.int .u64 w0) := HS.out.cell 0
          have kS1 : v6.cell? ⟨w.heap.size, 1, none⟩ = some (.int .u64 w1) := HS.out.cell 1
          have kS2 : v6.cell? ⟨w.heap.size, 2, none⟩ = some (.int .u64 u0) := HS.out.cell 2
          have kS3 : v6.cell? ⟨w.heap.size, 3, none⟩ = some (.int .u64 u1) := HS.out.cell 3
          have kS4 : v6.cell? ⟨w.heap.size, 4, none⟩ = some (.int .u64 d0) := HS.out.cell 4
          have kS5 : v6.cell? ⟨w.heap.size, 5, none⟩ = some (.int .u64 d1) := HS.out.cell 5
          cases y2
          · go_wp2_with fail
            go_ret
            exact ⟨by first | rfl | simp, EE.out⟩
          · go_wp2_with fail
            go_ret
            exact ⟨by first | rfl | simp, EE.out⟩
        · go_wp2_with fail
          go_ret
          exact ⟨by first | rfl | simp, EE.out⟩
      · go_wp2_with fail
        go_ret
        exact ⟨by first | rfl | simp, EE.out⟩
    · go_wp2_with fail
      go_ret
      exact ⟨by first | rfl | simp, EE.out⟩
  · obtain ⟨c1, hc1⟩ : ∃ b, callF U D f 1 = b := ⟨_, rfl⟩
    obtain ⟨c2, hc2⟩ : ∃ b, callF U D f (-1) = b := ⟨_, rfl⟩
    obtain ⟨y1, hy1⟩ : ∃ b, neF (byF W f 1) = b := ⟨_, rfl⟩
    obtain ⟨y2, hy2⟩ : ∃ b, neF (byF W f (-1)) = b := ⟨_, rfl⟩
    have o1 : othF 1 = -1 := rfl
    have o2 : othF (-1) = 1 := rfl
    simp only [hc1, hc2, hy1, hy2, o1, o2, if_true, Int.reduceEq, Int.reduceNeg, if_false, ite_true, ite_false, reduceIte] at C1 C2 Y1 Y2 ⊢
    have C1h := Lib.hid C1; have C2h := Lib.hid C2; have Y1h := Lib.hid Y1; have Y2h := Lib.hid Y2
    clear hc1 hc2 hy1 hy2 o1 o2 C1 C2 Y1 Y2
    go_enter Try.func19, Try.ntmps19
    go_wp2_with fail
    have BS := Blk.new w #[.int .u64 w0, .int .u64 w1, .int .u64 u0, .int .u64 u1, .int .u64 d0, .int .u64 d1] 43
    have BE : Below w.heap.size w (w.alloc (.cells #[.int .u64 w0, .int .u64 w1, .int .u64 u0, .int .u64 u1, .int .u64 d0, .int .u64 d1] 43)) := (Below.refl w.heap.size w).alloc (Nat.le_refl _) _
    obtain ⟨V0, hV0⟩ : ∃ V, (w.alloc (.cells #[.int .u64 w0, .int .u64 w1, .int .u64 u0, .int .u64 u1, .int .u64 d0, .int .u64 d1] 43)) = V := ⟨_, rfl⟩
    rw [hV0] at BS BE ⊢
    have HS := Lib.hid BS
    have EE := Lib.hid BE
    clear hV0 BE BS
    have kS0 : V0.cell? ⟨w.heap.size, 0, none⟩ = some (.int .u64 w0) := HS.out.cell 0
    have kS1 : V0.cell? ⟨w.heap.size, 1, none⟩ = some (.int .u64 w1) := HS.out.cell 1
    have kS2 : V0.cell? ⟨w.heap.size, 2, none⟩ = some (.int .u64 u0) := HS.out.cell 2
    have kS3 : V0.cell? ⟨w.heap.size, 3, none⟩ = some (.int .u64 u1) := HS.out.cell 3
    have kS4 : V0.cell? ⟨w.heap.size, 4, none⟩ = some (.int .u64 d0) := HS.out.cell 4
    have kS5 : V0.cell? ⟨w.heap.size, 5, none⟩ = some (.int .u64 d1) := HS.out.cell 5
    refine (C1h.out _).mono ?_
    rintro e v1 ⟨rfl, hb⟩
    clear kS0 kS1 kS2 kS3 kS4 kS5
    have HS := Lib.hid (Blk.next (w := V0) HS.out hb)
    have EE := Lib.hid (EE.out.trans (hb.mono EE.out.size))
    clear hb
    have kS0 : v1.cell? ⟨w.heap.size, 0, none⟩ = some (.int .u64 w0) := HS.out.cell 0
    have kS1 : v1.cell? ⟨w.heap.size, 1, none⟩ = some (.int .u64 w1) := HS.out.cell 1
    have kS2 : v1.cell? ⟨w.heap.size, 2, none⟩ = some (.int .u64 u0) := HS.out.cell 2
    have kS3 : v1.cell? ⟨w.heap.size, 3, none⟩ = some (.int .u64 u1) := HS.out.cell 3
    have kS4 : v1.cell? ⟨w.heap.size, 4, none⟩ = some (.int .u64 d0) := HS.out.cell 4
    have kS5 : v1.cell? ⟨w.heap.size, 5, none⟩ = some (.int .u64 d1) := HS.out.cell 5
    cases c1
    · go_wp2_with fail
      refine (Y1h.out _).mono ?_
      rintro e v2 ⟨rfl, hb⟩
      clear kS0 kS1 kS2 kS3 kS4 kS5
      have HS := Lib.hid (Blk.next (w := v1) HS.out hb)
      have EE := Lib.hid (EE.out.trans (hb.mono EE.out.size))
      clear hb
      have kS0 : v2.cell? ⟨w.heap.size, 0, none⟩ = some (.int .u64 w0) := HS.out.cell 0
      have kS1 : v2.cell? ⟨w.heap.size, 1, none⟩ = some (.int .u64 w1) := HS.out.cell 1
      have kS2 : v2.cell? ⟨w.heap.size, 2, none⟩ = some (.int .u64 u0) := HS.out.cell 2
      have kS3 : v2.cell? ⟨w.heap.size, 3, none⟩ = some (.int .u64 u1) := HS.out.cell 3
      have kS4 : v2.cell? ⟨w.heap.size, 4, none⟩ = some (.int .u64 d0) := HS.out.cell 4
      have kS5 : v2.cell? ⟨w.heap.size, 5, none⟩ = some (.int .u64 d1) := HS.out.cell 5
      cases y1
      · go_wp2_with fail
        refine (C2h.out _).mono ?_
        rintro e v3 ⟨rfl, hb⟩
        clear kS0 kS1 kS2 kS3 kS4 kS5
        have HS := Lib.hid (Blk.next (w := v2) HS.out hb)
        have EE := Lib.hid (EE.out.trans (hb.mono EE.out.size))
        clear hb
        have kS0 : v3.cell? ⟨w.heap.size, 0, none⟩ = some (.int .u64 w0) := HS.out.cell 0
        have kS1 : v3.cell? ⟨w.heap.size, 1, none⟩ = some (.int .u64 w1) := HS.out.cell 1
        have kS2 : v3.cell? ⟨w.heap.size, 2, none⟩ = some (.int .u64 u0) := HS.out.cell 2
        have kS3 : v3.cell? ⟨w.heap.size, 3, none⟩ = some (.int .u64 u1) := HS.out.cell 3
        have kS4 : v3.cell? ⟨w.heap.size, 4, none⟩ = some (.int .u64 d0) := HS.out.cell 4
        have kS5 : v3.cell? ⟨w.heap.size, 5, none⟩ = some (.int .u64 d1) := HS.out.cell 5
        cases c2
        · go_wp2_with fail
          refine (Y2h.out _).mono ?_
          rintro e v4 ⟨rfl, hb⟩
          clear kS0 kS1 kS2 kS3 kS4 kS5
          have HS := Lib.hid (Blk.next (w := v3) HS.out hb)
          have EE := Lib.hid (EE.out.trans (hb.mono EE.out.size))
          clear hb
          have kS0 : v4.cell? ⟨w.heap.size, 0, none⟩ = some (.int .u64 w0) := HS.out.cell 0
          have kS1 : v4.cell? ⟨w.heap.size, 1, none⟩ = some (.int .u64 w1) := HS.out.cell 1
          have kS2 : v4.cell? ⟨w.heap.size, 2, none⟩ = some (.int .u64 u0) := HS.out.cell 2
          have kS3 : v4.cell? ⟨w.heap.size, 3, none⟩ = some (.int .u64 u1) := HS.out.cell 3
          have kS4 : v4.cell? ⟨w.heap.size, 4, none⟩ = some (.int .u64 d0) := HS.out.cell 4
          have kS5 : v4.cell? ⟨w.heap.size, 5, none⟩ = some (.int .u64 d1) := HS.out.cell 5
          cases y2
          · go_wp2_with fail
            go_ret
            exact ⟨by first | rfl | simp, EE.out⟩
          · go_wp2_with fail
            go_ret
            exact ⟨by first | rfl | simp, EE.out⟩
        · go_wp2_with fail
          go_ret
          exact ⟨by first | rfl | simp, EE.out⟩
      · go_wp2_with fail
        go_ret
        exact ⟨by first | rfl | simp, EE.out⟩
    · go_wp2_with fail
      go_ret
      exact ⟨by first | rfl | simp, EE.out⟩
  · obtain ⟨c1, hc1⟩ : ∃ b, callF U D f 1 = b := ⟨_, rfl⟩
    obtain ⟨c2, hc2⟩ : ∃ b, callF U D f (-1) = b := ⟨_, rfl⟩
    obtain ⟨y1, hy1⟩ : ∃ b, neF (byF W f 1) = b := ⟨_, rfl⟩
    obtain ⟨y2, hy2⟩ : ∃ b, neF (byF W f (-1)) = b := ⟨_, rfl⟩
    have o1 : othF 1 = -1 := rfl
    have o2 : othF (-1) = 1 := rfl
    simp only [hc1, hc2, hy1, hy2, o1, o2, if_true, Int.reduceEq, Int.reduceNeg, if_false, ite_true, ite_false, reduceIte] at C1 C2 Y1 Y2 ⊢
    have C1h := Lib.hid C1; have C2h := Lib.hid C2; have Y1h := Lib.hid Y1; have Y2h := Lib.hid Y2
    clear hc1 hc2 hy1 hy2 o1 o2 C1 C2 Y1 Y2
    go_enter Try.func19, Try.ntmps19
    go_wp2_with fail
    have BS := Blk.new w #[.int .u64 w0, .int .u64 w1, .int .u64 u0, .int .u64 u1, .int .u64 d0, .int .u64 d1] 43
    have BE : Below w.heap.size w (w.alloc (.cells #[.int .u64 w0, .int .u64 w1, .int .u64 u0, .int .u64 u1, .int .u64 d0, .int .u64 d1] 43)) := (Below.refl w.heap.size w).alloc (Nat.le_refl _) _
    obtain ⟨V0, hV0⟩ : ∃ V, (w.alloc (.cells #[.int .u64 w0, .int .u64 w1, .int .u64 u0, .int .u64 u1, .int .u64 d0, .int .u64 d1] 43)) = V := ⟨_, rfl⟩
    rw [hV0] at BS BE ⊢
    have HS := Lib.hid BS
    have EE := Lib.hid BE
    clear hV0 BE BS
    have kS0 : V0.cell? ⟨w.heap.size, 0, none⟩ = some (.int .u64 w0) := HS.out.cell 0
    have kS1 : V0.cell? ⟨w.heap.size, 1, none⟩ = some (.int .u64 w1) := HS.out.cell 1
    have kS2 : V0.cell? ⟨w.heap.size, 2, none⟩ = some (.int .u64 u0) := HS.out.cell 2
    have kS3 : V0.cell? ⟨w.heap.size, 3, none⟩ = some (.int .u64 u1) := HS.out.cell 3
    have kS4 : V0.cell? ⟨w.heap.size, 4, none⟩ = some (.int .u64 d0) := HS.out.cell 4
    have kS5 : V0.cell? ⟨w.heap.size, 5, none⟩ = some (.int .u64 d1) := HS.out.cell 5
    refine (C2h.out _).mono ?_
    rintro e v1 ⟨rfl, hb⟩
    clear kS0 kS1 kS2 kS3 kS4 kS5
    have HS := Lib.hid (Blk.next (w := V0) HS.out hb)
    have EE := Lib.hid (EE.out.trans (hb.mono EE.out.size))
    clear hb
    have kS0 : v1.cell? ⟨w.heap.size, 0, none⟩ = some (.int .u64 w0) := HS.out.cell 0
    have kS1 : v1.cell? ⟨w.heap.size, 1, none⟩ = some (.int .u64 w1) := HS.out.cell 1
    have kS2 : v1.cell? ⟨w.heap.size, 2, none⟩ = some (.int .u64 u0) := HS.out.cell 2
    have kS3 : v1.cell? ⟨w.heap.size, 3, none⟩ = some (.int .u64 u1) := HS.out.cell 3
    have kS4 : v1.cell? ⟨w.heap.size, 4, none⟩ = some (.int .u64 d0) := HS.out.cell 4
    have kS5 : v1.cell? ⟨w.heap.size, 5, none⟩ = some (.int .u64 d1) := HS.out.cell 5
    cases c2
    · go_wp2_with fail
      refine (Y2h.out _).mono ?_
      rintro e v2 ⟨rfl, hb⟩
      clear kS0 kS1 kS2 kS3 kS4 kS5
      have HS := Lib.hid (Blk.next (w := v1) HS.out hb)
      have EE := Lib.hid (EE.out.trans (hb.mono EE.out.size))
      clear hb
      have kS0 : v2.cell? ⟨w.heap.size, 0, none⟩ = some (.int .u64 w0) := HS.out.cell 0
      have kS1 : v2.cell? ⟨w.heap.size, 1, none⟩ = some (.int .u64 w1) := HS.out.cell 1
      have kS2 : v2.cell? ⟨w.heap.size, 2, none⟩ = some (.int .u64 u0) := HS.out.cell 2
      have kS3 : v2.cell? ⟨w.heap.size, 3, none⟩ = some (.int .u64 u1) := HS.out.cell 3
      have kS4 : v2.cell? ⟨w.heap.size, 4, none⟩ = some (.int .u64 d0) := HS.out.cell 4
      have kS5 : v2.cell? ⟨w.heap.size, 5, none⟩ = some (.int .u64 d1) := HS.out.cell 5
      cases y2
      · go_wp2_with fail
        refine (C1h.out _).mono ?_
        rintro e v3 ⟨rfl, hb⟩
        clear kS0 kS1 kS2 kS3 kS4 kS5
        have HS := Lib.hid (Blk.next (w := v2) HS.out hb)
        have EE := Lib.hid (EE.out.trans (hb.mono EE.out.size))
        clear hb
        have kS0 : v3.cell? ⟨w.heap.size, 0, none⟩ = some (.int .u64 w0) := HS.out.cell 0
        have kS1 : v3.cell? ⟨w.heap.size, 1, none⟩ = some (.int .u64 w1) := HS.out.cell 1
        have kS2 : v3.cell? ⟨w.heap.size, 2, none⟩ = some (.int .u64 u0) := HS.out.cell 2
        have kS3 : v3.cell? ⟨w.heap.size, 3, none⟩ = some (.int .u64 u1) := HS.out.cell 3
        have kS4 : v3.cell? ⟨w.heap.size, 4, none⟩ = some (.int .u64 d0) := HS.out.cell 4
        have kS5 : v3.cell? ⟨w.heap.size, 5, none⟩ = some (.int .u64 d1) := HS.out.cell 5
        cases c1
        · go_wp2_with fail
          refine (Y1h.out _).mono ?_
          rintro e v4 ⟨rfl, hb⟩
          clear kS0 kS1 kS2 kS3 kS4 kS5
          have HS := Lib.hid (Blk.next (w := v3) HS.out hb)
          have EE := Lib.hid (EE.out.trans (hb.mono EE.out.size))
          clear hb
          have kS0 : v4.cell? ⟨w.heap.size, 0, none⟩ = some (.int .u64 w0) := HS.out.cell 0
          have kS1 : v4.cell? ⟨w.heap.size, 1, none⟩ = some (.int .u64 w1) := HS.out.cell 1
          have kS2 : v4.cell? ⟨w.heap.size, 2, none⟩ = some (.int .u64 u0) := HS.out.cell 2
          have kS3 : v4.cell? ⟨w.heap.size, 3, none⟩ = some (.int .u64 u1) := HS.out.cell 3
          have kS4 : v4.cell? ⟨w.heap.size, 4, none⟩ = some (.int .u64 d0) := HS.out.cell 4
          have kS5 : v4.cell? ⟨w.heap.size, 5, none⟩ = some (.int .u64 d1) := HS.out.cell 5
          cases y1
          · go_wp2_with fail
            go_ret
            exact ⟨by first | rfl | simp, EE.out⟩
          · go_wp2_with fail
            go_ret
            exact ⟨by first | rfl | simp, EE.out⟩
        · go_wp2_with fail
          go_ret
          exact ⟨by first | rfl | simp, EE.out⟩
      · go_wp2_with fail
        go_ret
        exact ⟨by first | rfl | simp, EE.out⟩
    · go_wp2_with fail
      go_ret
      exact ⟨by first | rfl | simp, EE.out⟩
set_option maxRecDepth 100000 in
set_option maxHeartbeats 4000000 in
theorem rstop31_any (W U D : Nat → Bool) (f p d md le : Int) (wa : Bool) (A : Option Addr) (n c : Nat) (z : Nat → Nat → Int) (w : World) (hr : RdZ w 2 A n z) (hl : n ≤ 1000) (hd : d = 0 ∨ d = 1 ∨ d = -1) :
    Calls Try.prog 18 #[sgtV W U D, carV p d md le wa A n c, .int .i64 f] w fun e w' => e = .returned (.bool (stopB (rdF z n) W U D f d)) ∧ Below w.heap.size w w' := by
  have RI := fun w hr => rrides_any p d md le wa A n c z w hr hl
  have C1 := fun w => rcall31_any W U D f 1 w
  have C2 := fun w => rcall31_any W U D f (-1) w
  have Y1 := fun w => rbey31_any W U D f 1 w
  have Y2 := fun w => rbey31_any W U D f (-1) w
  have IL := itL_len (rdF z n) 128
  have IM : hasF (rdF z n) f = true ↔ ∃ i, i < (itL (rdF z n) 128).length ∧ zat (itL (rdF z n) 128) i = f := by
    constructor
    · intro h
      unfold hasF at h
      simp only [Bool.and_eq_true, decide_eq_true_eq] at h
      obtain ⟨⟨h0, h1⟩, h2⟩ := h
      exact mem_zat ((itL_mem _ _ _).2 ⟨f.toNat, by omega, h2, by omega⟩)
    · rintro ⟨i, hi, he⟩
      obtain ⟨m, h1, h2, h3⟩ := (itL_mem _ _ _).1 (zat_mem hi)
      rw [he] at h3; subst h3
      unfold hasF
      simp [h1, h2]
      omega
  have WF := itL_wf (rdF z n) 128 (Nat.le_refl _)
  have HR := Lib.hid hr
  unfold stopB
  unfold sgtV carV at *
  obtain ⟨w0, hw0⟩ : ∃ x, wordX W = x := ⟨_, rfl⟩
  obtain ⟨w1, hw1⟩ : ∃ x, wordY W = x := ⟨_, rfl⟩
  obtain ⟨u0, hu0⟩ : ∃ x, wordX U = x := ⟨_, rfl⟩
  obtain ⟨u1, hu1⟩ : ∃ x, wordY U = x := ⟨_, rfl⟩
  obtain ⟨d0, hd0⟩ : ∃ x, wordX D = x := ⟨_, rfl⟩
  obtain ⟨d1, hd1⟩ : ∃ x, wordY D = x := ⟨_, rfl⟩
  obtain ⟨c1, hc1⟩ : ∃ b, callF U D f 1 = b := ⟨_, rfl⟩
  obtain ⟨c2, hc2⟩ : ∃ b, callF U D f (-1) = b := ⟨_, rfl⟩
  obtain ⟨y1, hy1⟩ : ∃ b, neF (byF W f 1) = b := ⟨_, rfl⟩
  obtain ⟨y2, hy2⟩ : ∃ b, neF (byF W f (-1)) = b := ⟨_, rfl⟩
  have o1 : othF 1 = -1 := rfl
  have o2 : othF (-1) = 1 := rfl
  obtain ⟨l, hLl⟩ : ∃ l, itL (rdF z n) 128 = l := ⟨_, rfl⟩
  obtain ⟨bh, hbh⟩ : ∃ b, hasF (rdF z n) f = b := ⟨_, rfl⟩
  simp only [hw0, hw1, hu0, hu1, hd0, hd1, hc1, hc2, hy1, hy2, hLl, hbh] at RI C1 C2 Y1 Y2 IL IM WF ⊢
  have RIh := Lib.hid RI; have C1h := Lib.hid C1; have C2h := Lib.hid C2; have Y1h := Lib.hid Y1; have Y2h := Lib.hid Y2
  have IMh := Lib.hid IM; have WFh := Lib.hid WF
  obtain ⟨N, hN⟩ : ∃ N, l.length = N := ⟨_, rfl⟩
  have HN := Lib.hid hN
  rw [hN] at IL
  have ILI : (N : Int) ≤ 128 := by omega
  have VAL : Hid (∀ X, (if bh = true then true else if d = 0 then c1 || c2 else callF U D f d || (callF U D f (othF d) && !neF (byF W f d))) = X ↔ (if bh = true then true else if d = 0 then c1 || c2 else if d = 1 then c1 || (c2 && !y1) else c2 || (c1 && !y2)) = X) := Lib.hid fun X => by
    rcases hd with rfl | rfl | rfl
    · simp
    · rw [o1, hc1, hc2, hy1]; simp
    · rw [o2, hc1, hc2, hy2]; simp
  obtain ⟨ans, hans⟩ : ∃ a, (if bh = true then true else if d = 0 then c1 || c2 else callF U D f d || (callF U D f (othF d) && !neF (byF W f d))) = a := ⟨_, rfl⟩
  rw [hans]
  have ANS := Lib.hid ((VAL.out ans).1 hans)
  clear hans VAL hw0 hw1 hu0 hu1 hd0 hd1 hc1 hc2 hy1 hy2 hLl hbh hN RI C1 C2 Y1 Y2 IM WF hr o1 o2
  go_enter Try.func18, Try.ntmps18
  go_wp2_with fail
  have BS := (Blk.new w #[.int .u64 w0, .int .u64 w1, .int .u64 u0, .int .u64 u1, .int .u64 d0, .int .u64 d1] 43).alloc (.cells #[.int .i64 p, .int .i64 d, .int .i64 md, .int .i64 le, .bool wa, .slice A n c] 29)
  have BC := Blk.new (w.alloc (.cells #[.int .u64 w0, .int .u64 w1, .int .u64 u0, .int .u64 u1, .int .u64 d0, .int .u64 d1] 43)) #[.int .i64 p, .int .i64 d, .int .i64 md, .int .i64 le, .bool wa, .slice A n c] 29
  rw [World.size_alloc] at BC
  have BE : Below w.heap.size w ((w.alloc (.cells #[.int .u64 w0, .int .u64 w1, .int .u64 u0, .int .u64 u1, .int .u64 d0, .int .u64 d1] 43)).alloc (.cells #[.int .i64 p, .int .i64 d, .int .i64 md, .int .i64 le, .bool wa, .slice A n c] 29)) := ((Below.refl w.heap.size w).alloc (Nat.le_refl _) _).alloc (by simp <;> omega) _
  obtain ⟨V0, hV0⟩ : ∃ V, ((w.alloc (.cells #[.int .u64 w0, .int .u64 w1, .int .u64 u0, .int .u64 u1, .int .u64 d0, .int .u64 d1] 43)).alloc (.cells #[.int .i64 p, .int .i64 d, .int .i64 md, .int .i64 le, .bool wa, .slice A n c] 29)) = V := ⟨_, rfl⟩
  rw [hV0] at BS BC BE ⊢
  have HS := Lib.hid BS
  have HC := Lib.hid BC
  have EE := Lib.hid BE
  have ne0_1 : w.heap.size ≠ w.heap.size + 1 := by omega
  have ne1_0 : w.heap.size + 1 ≠ w.heap.size := by omega
  clear hV0 BE BS BC
  have kS0 : V0.cell? ⟨w.heap.size, 0, none⟩ = some (.int .u64 w0) := HS.out.cell 0
  have kS1 : V0.cell? ⟨w.heap.size, 1, none⟩ = some (.int .u64 w1) := HS.out.cell 1
  have kS2 : V0.cell? ⟨w.heap.size, 2, none⟩ = some (.int .u64 u0) := HS.out.cell 2
  have kS3 : V0.cell? ⟨w.heap.size, 3, none⟩ = some (.int .u64 u1) := HS.out.cell 3
  have kS4 : V0.cell? ⟨w.heap.size, 4, none⟩ = some (.int .u64 d0) := HS.out.cell 4
  have kS5 : V0.cell? ⟨w.heap.size, 5, none⟩ = some (.int .u64 d1) := HS.out.cell 5
  have kC0 : V0.cell? ⟨w.heap.size + 1, 0, none⟩ = some (.int .i64 p) := HC.out.cell 0
  have kC1 : V0.cell? ⟨w.heap.size + 1, 1, none⟩ = some (.int .i64 d) := HC.out.cell 1
  have kC2 : V0.cell? ⟨w.heap.size + 1, 2, none⟩ = some (.int .i64 md) := HC.out.cell 2
  have kC3 : V0.cell? ⟨w.heap.size + 1, 3, none⟩ = some (.int .i64 le) := HC.out.cell 3
  have kC4 : V0.cell? ⟨w.heap.size + 1, 4, none⟩ = some (.bool wa) := HC.out.cell 4
  have kC5 : V0.cell? ⟨w.heap.size + 1, 5, none⟩ = some (.slice A n c) := HC.out.cell 5
  refine (RIh.out _ (HR.out.kept EE.out)).mono ?_
  rintro e v1 ⟨v, B, rfl, how, hB0, hB1, hb⟩
  obtain ⟨LA, LC, rfl, hRL⟩ := ownR_rd how WFh.out
  have RL := Lib.hid hRL
  clear how hB0 hB1 hRL
  have hNo := HN.out
  rw [hNo]
  clear hNo
  clear kS0 kS1 kS2 kS3 kS4 kS5 kC0 kC1 kC2 kC3 kC4 kC5
  have HS := Lib.hid (Blk.next (w := V0) HS.out hb)
  have HC := Lib.hid (Blk.next (w := V0) HC.out hb)
  have EE := Lib.hid (EE.out.trans (hb.mono EE.out.size))
  clear hb
  have kS0 : v1.cell? ⟨w.heap.size, 0, none⟩ = some (.int .u64 w0) := HS.out.cell 0
  have kS1 : v1.cell? ⟨w.heap.size, 1, none⟩ = some (.int .u64 w1) := HS.out.cell 1
  have kS2 : v1.cell? ⟨w.heap.size, 2, none⟩ = some (.int .u64 u0) := HS.out.cell 2
  have kS3 : v1.cell? ⟨w.heap.size, 3, none⟩ = some (.int .u64 u1) := HS.out.cell 3
  have kS4 : v1.cell? ⟨w.heap.size, 4, none⟩ = some (.int .u64 d0) := HS.out.cell 4
  have kS5 : v1.cell? ⟨w.heap.size, 5, none⟩ = some (.int .u64 d1) := HS.out.cell 5
  have kC0 : v1.cell? ⟨w.heap.size + 1, 0, none⟩ = some (.int .i64 p) := HC.out.cell 0
  have kC1 : v1.cell? ⟨w.heap.size + 1, 1, none⟩ = some (.int .i64 d) := HC.out.cell 1
  have kC2 : v1.cell? ⟨w.heap.size + 1, 2, none⟩ = some (.int .i64 md) := HC.out.cell 2
  have kC3 : v1.cell? ⟨w.heap.size + 1, 3, none⟩ = some (.int .i64 le) := HC.out.cell 3
  have kC4 : v1.cell? ⟨w.heap.size + 1, 4, none⟩ = some (.bool wa) := HC.out.cell 4
  have kC5 : v1.cell? ⟨w.heap.size + 1, 5, none⟩ = some (.slice A n c) := HC.out.cell 5
  go_wp2_with fail
  go_loopw [8] (fun i wr => ∃ k : Nat, k ≤ N ∧ i = .int .i64 k ∧ wr = v1 ∧ Hid (∀ j, j < k → zat l j ≠ f)) (fun i _ => N - (intOf i).toNat)
  case atStart => exact ⟨0, by omega, rfl, rfl, Lib.hid (fun j hj => absurd hj (by omega))⟩
  case round =>
    obtain ⟨k, hk, rfl, rfl, NO⟩ := hrel
    by_cases h : k < N
    · obtain ⟨b, off, rfl, hlt, hc⟩ := rdI_row RL.out (by have := HN.out; omega)
      have ck := hc k (by have := HN.out; omega)
      obtain ⟨q, hq⟩ : ∃ q, zat l k = q := ⟨_, rfl⟩
      rw [hq] at ck
      have hkI : (k : Int) < N := by omega
      clear hc
      by_cases h2 : q = f
      · have hbt : bh = true := IMh.out.2 ⟨k, by have := HN.out; omega, by rw [hq]; exact h2⟩
        have hA : ans = true := by have := ANS.out; rw [hbt, if_pos rfl] at this; exact this.symm
        subst hA
        have e2 : (q == f) = true := by rw [h2]; simp
        clear hq hbt ANS IMh RIh C1h C2h Y1h Y2h
        go_wp2_with fail
        go_ret
        exact ⟨rfl, EE.out⟩
      · have e2 : (q == f) = false := by rw [beq_eq_false_iff_ne]; exact h2
        have NO1 : Hid (∀ j, j < k + 1 → zat l j ≠ f) := Lib.hid fun j hj => by
          by_cases e : j = k
          · rw [e, hq]; exact h2
          · exact NO.out j (by omega)
        clear hq NO
        go_wp2_with fail
        go_roundw
        case rel => exact ⟨k + 1, by omega, by go_num, by first | rfl | trivial, NO1⟩
        case measure => simp [intOf]; omega
    · obtain rfl : k = N := by omega
      have hbf : bh = false := by
        cases hbb : bh
        · rfl
        · obtain ⟨i, h1, h2⟩ := IMh.out.1 hbb
          rw [HN.out] at h1
          exact absurd h2 (NO.out i h1)
      subst hbf
      have ANS2 := Lib.hid (show (if d = 0 then c1 || c2 else if d = 1 then c1 || (c2 && !y1) else c2 || (c1 && !y2)) = ans by have := ANS.out; simpa using this)
      clear NO ANS IMh RIh WFh RL
      rcases hd with rfl | rfl | rfl
      · go_wp2_with fail
        refine (C1h.out _).mono ?_
        rintro e v2 ⟨rfl, hb⟩
        clear kS0 kS1 kS2 kS3 kS4 kS5 kC0 kC1 kC2 kC3 kC4 kC5
        have HS := Lib.hid (Blk.next (w := wr) HS.out hb)
        have HC := Lib.hid (Blk.next (w := wr) HC.out hb)
        have EE := Lib.hid (EE.out.trans (hb.mono EE.out.size))
        clear hb
        have kS0 : v2.cell? ⟨w.heap.size, 0, none⟩ = some (.int .u64 w0) := HS.out.cell 0
        have kS1 : v2.cell? ⟨w.heap.size, 1, none⟩ = some (.int .u64 w1) := HS.out.cell 1
        have kS2 : v2.cell? ⟨w.heap.size, 2, none⟩ = some (.int .u64 u0) := HS.out.cell 2
        have kS3 : v2.cell? ⟨w.heap.size, 3, none⟩ = some (.int .u64 u1) := HS.out.cell 3
        have kS4 : v2.cell? ⟨w.heap.size, 4, none⟩ = some (.int .u64 d0) := HS.out.cell 4
        have kS5 : v2.cell? ⟨w.heap.size, 5, none⟩ = some (.int .u64 d1) := HS.out.cell 5
        have kC0 : v2.cell? ⟨w.heap.size + 1, 0, none⟩ = some (.int .i64 p) := HC.out.cell 0
        have kC1 : v2.cell? ⟨w.heap.size + 1, 1, none⟩ = some (.int .i64 0) := HC.out.cell 1
        have kC2 : v2.cell? ⟨w.heap.size + 1, 2, none⟩ = some (.int .i64 md) := HC.out.cell 2
        have kC3 : v2.cell? ⟨w.heap.size + 1, 3, none⟩ = some (.int .i64 le) := HC.out.cell 3
        have kC4 : v2.cell? ⟨w.heap.size + 1, 4, none⟩ = some (.bool wa) := HC.out.cell 4
        have kC5 : v2.cell? ⟨w.heap.size + 1, 5, none⟩ = some (.slice A n c) := HC.out.cell 5
        cases c1
        · go_wp2_with fail
          refine (C2h.out _).mono ?_
          rintro e v3 ⟨rfl, hb⟩
          clear kS0 kS1 kS2 kS3 kS4 kS5 kC0 kC1 kC2 kC3 kC4 kC5
          have HS := Lib.hid (Blk.next (w := v2) HS.out hb)
          have HC := Lib.hid (Blk.next (w := v2) HC.out hb)
          have EE := Lib.hid (EE.out.trans (hb.mono EE.out.size))
          clear hb
          have kS0 : v3.cell? ⟨w.heap.size, 0, none⟩ = some (.int .u64 w0) := HS.out.cell 0
          have kS1 : v3.cell? ⟨w.heap.size, 1, none⟩ = some (.int .u64 w1) := HS.out.cell 1
          have kS2 : v3.cell? ⟨w.heap.size, 2, none⟩ = some (.int .u64 u0) := HS.out.cell 2
          have kS3 : v3.cell? ⟨w.heap.size, 3, none⟩ = some (.int .u64 u1) := HS.out.cell 3
          have kS4 : v3.cell? ⟨w.heap.size, 4, none⟩ = some (.int .u64 d0) := HS.out.cell 4
          have kS5 : v3.cell? ⟨w.heap.size, 5, none⟩ = some (.int .u64 d1) := HS.out.cell 5
          have kC0 : v3.cell? ⟨w.heap.size + 1, 0, none⟩ = some (.int .i64 p) := HC.out.cell 0
          have kC1 : v3.cell? ⟨w.heap.size + 1, 1, none⟩ = some (.int .i64 0) := HC.out.cell 1
          have kC2 : v3.cell? ⟨w.heap.size + 1, 2, none⟩ = some (.int .i64 md) := HC.out.cell 2
          have kC3 : v3.cell? ⟨w.heap.size + 1, 3, none⟩ = some (.int .i64 le) := HC.out.cell 3
          have kC4 : v3.cell? ⟨w.heap.size + 1, 4, none⟩ = some (.bool wa) := HC.out.cell 4
          have kC5 : v3.cell? ⟨w.heap.size + 1, 5, none⟩ = some (.slice A n c) := HC.out.cell 5
          cases c2
          · go_wp2_with fail
            go_ret
            exact ⟨by have h := ANS2.out; rw [← h]; first | rfl | (cases c2 <;> rfl) | (cases c1 <;> rfl), EE.out⟩
          · go_wp2_with fail
            go_ret
            exact ⟨by have h := ANS2.out; rw [← h]; first | rfl | (cases c2 <;> rfl) | (cases c1 <;> rfl), EE.out⟩
        · go_wp2_with fail
          go_ret
          exact ⟨by have h := ANS2.out; rw [← h]; first | rfl | (cases c2 <;> rfl) | (cases c1 <;> rfl), EE.out⟩
      · go_wp2_with fail
        refine (C1h.out _).mono ?_
        rintro e v2 ⟨rfl, hb⟩
        clear kS0 kS1 kS2 kS3 kS4 kS5 kC0 kC1 kC2 kC3 kC4 kC5
        have HS := Lib.hid (Blk.next (w := wr) HS.out hb)
        have HC := Lib.hid (Blk.next (w := wr) HC.out hb)
        have EE := Lib.hid (EE.out.trans (hb.mono EE.out.size))
        clear hb
        have kS0 : v2.cell? ⟨w.heap.size, 0, none⟩ = some (.int .u64 w0) := HS.out.cell 0
        have kS1 : v2.cell? ⟨w.heap.size, 1, none⟩ = some (.int .u64 w1) := HS.out.cell 1
        have kS2 : v2.cell? ⟨w.heap.size, 2, none⟩ = some (.int .u64 u0) := HS.out.cell 2
        have kS3 : v2.cell? ⟨w.heap.size, 3, none⟩ = some (.int .u64 u1) := HS.out.cell 3
        have kS4 : v2.cell? ⟨w.heap.size, 4, none⟩ = some (.int .u64 d0) := HS.out.cell 4
        have kS5 : v2.cell? ⟨w.heap.size, 5, none⟩ = some (.int .u64 d1) := HS.out.cell 5
        have kC0 : v2.cell? ⟨w.heap.size + 1, 0, none⟩ = some (.int .i64 p) := HC.out.cell 0
        have kC1 : v2.cell? ⟨w.heap.size + 1, 1, none⟩ = some (.int .i64 1) := HC.out.cell 1
        have kC2 : v2.cell? ⟨w.heap.size + 1, 2, none⟩ = some (.int .i64 md) := HC.out.cell 2
        have kC3 : v2.cell? ⟨w.heap.size + 1, 3, none⟩ = some (.int .i64 le) := HC.out.cell 3
        have kC4 : v2.cell? ⟨w.heap.size + 1, 4, none⟩ = some (.bool wa) := HC.out.cell 4
        have kC5 : v2.cell? ⟨w.heap.size + 1, 5, none⟩ = some (.slice A n c) := HC.out.cell 5
        cases c1
        · go_wp2_with fail
          refine (Y1h.out _).mono ?_
          rintro e v3 ⟨rfl, hb⟩
          clear kS0 kS1 kS2 kS3 kS4 kS5 kC0 kC1 kC2 kC3 kC4 kC5
          have HS := Lib.hid (Blk.next (w := v2) HS.out hb)
          have HC := Lib.hid (Blk.next (w := v2) HC.out hb)
          have EE := Lib.hid (EE.out.trans (hb.mono EE.out.size))
          clear hb
          have kS0 : v3.cell? ⟨w.heap.size, 0, none⟩ = some (.int .u64 w0) := HS.out.cell 0
          have kS1 : v3.cell? ⟨w.heap.size, 1, none⟩ = some (.int .u64 w1) := HS.out.cell 1
          have kS2 : v3.cell? ⟨w.heap.size, 2, none⟩ = some (.int .u64 u0) := HS.out.cell 2
          have kS3 : v3.cell? ⟨w.heap.size, 3, none⟩ = some (.int .u64 u1) := HS.out.cell 3
          have kS4 : v3.cell? ⟨w.heap.size, 4, none⟩ = some (.int .u64 d0) := HS.out.cell 4
          have kS5 : v3.cell? ⟨w.heap.size, 5, none⟩ = some (.int .u64 d1) := HS.out.cell 5
          have kC0 : v3.cell? ⟨w.heap.size + 1, 0, none⟩ = some (.int .i64 p) := HC.out.cell 0
          have kC1 : v3.cell? ⟨w.heap.size + 1, 1, none⟩ = some (.int .i64 1) := HC.out.cell 1
          have kC2 : v3.cell? ⟨w.heap.size + 1, 2, none⟩ = some (.int .i64 md) := HC.out.cell 2
          have kC3 : v3.cell? ⟨w.heap.size + 1, 3, none⟩ = some (.int .i64 le) := HC.out.cell 3
          have kC4 : v3.cell? ⟨w.heap.size + 1, 4, none⟩ = some (.bool wa) := HC.out.cell 4
          have kC5 : v3.cell? ⟨w.heap.size + 1, 5, none⟩ = some (.slice A n c) := HC.out.cell 5
          cases y1
          · go_wp2_with fail
            refine (C2h.out _).mono ?_
            rintro e v4 ⟨rfl, hb⟩
            clear kS0 kS1 kS2 kS3 kS4 kS5 kC0 kC1 kC2 kC3 kC4 kC5
            have HS := Lib.hid (Blk.next (w := v3) HS.out hb)
            have HC := Lib.hid (Blk.next (w := v3) HC.out hb)
            have EE := Lib.hid (EE.out.trans (hb.mono EE.out.size))
            clear hb
            have kS0 : v4.cell? ⟨w.heap.size, 0, none⟩ = some (.int .u64 w0) := HS.out.cell 0
            have kS1 : v4.cell? ⟨w.heap.size, 1, none⟩ = some (.int .u64 w1) := HS.out.cell 1
            have kS2 : v4.cell? ⟨w.heap.size, 2, none⟩ = some (.int .u64 u0) := HS.out.cell 2
            have kS3 : v4.cell? ⟨w.heap.size, 3, none⟩ = some (.int .u64 u1) := HS.out.cell 3
            have kS4 : v4.cell? ⟨w.heap.size, 4, none⟩ = some (.int .u64 d0) := HS.out.cell 4
            have kS5 : v4.cell? ⟨w.heap.size, 5, none⟩ = some (.int .u64 d1) := HS.out.cell 5
            have kC0 : v4.cell? ⟨w.heap.size + 1, 0, none⟩ = some (.int .i64 p) := HC.out.cell 0
            have kC1 : v4.cell? ⟨w.heap.size + 1, 1, none⟩ = some (.int .i64 1) := HC.out.cell 1
            have kC2 : v4.cell? ⟨w.heap.size + 1, 2, none⟩ = some (.int .i64 md) := HC.out.cell 2
            have kC3 : v4.cell? ⟨w.heap.size + 1, 3, none⟩ = some (.int .i64 le) := HC.out.cell 3
            have kC4 : v4.cell? ⟨w.heap.size + 1, 4, none⟩ = some (.bool wa) := HC.out.cell 4
            have kC5 : v4.cell? ⟨w.heap.size + 1, 5, none⟩ = some (.slice A n c) := HC.out.cell 5
            cases c2
            · go_wp2_with fail
              go_ret
              exact ⟨by have h := ANS2.out; rw [← h]; first | rfl | (cases c2 <;> rfl) | (cases c1 <;> rfl), EE.out⟩
            · go_wp2_with fail
              go_ret
              exact ⟨by have h := ANS2.out; rw [← h]; first | rfl | (cases c2 <;> rfl) | (cases c1 <;> rfl), EE.out⟩
          · go_wp2_with fail
            go_ret
            exact ⟨by have h := ANS2.out; rw [← h]; first | rfl | (cases c2 <;> rfl) | (cases c1 <;> rfl), EE.out⟩
        · go_wp2_with fail
          go_ret
          exact ⟨by have h := ANS2.out; rw [← h]; first | rfl | (cases c2 <;> rfl) | (cases c1 <;> rfl), EE.out⟩
      · go_wp2_with fail
        refine (C2h.out _).mono ?_
        rintro e v2 ⟨rfl, hb⟩
        clear kS0 kS1 kS2 kS3 kS4 kS5 kC0 kC1 kC2 kC3 kC4 kC5
        have HS := Lib.hid (Blk.next (w := wr) HS.out hb)
        have HC := Lib.hid (Blk.next (w := wr) HC.out hb)
        have EE := Lib.hid (EE.out.trans (hb.mono EE.out.size))
        clear hb
        have kS0 : v2.cell? ⟨w.heap.size, 0, none⟩ = some (.int .u64 w0) := HS.out.cell 0
        have kS1 : v2.cell? ⟨w.heap.size, 1, none⟩ = some (.int .u64 w1) := HS.out.cell 1
        have kS2 : v2.cell? ⟨w.heap.size, 2, none⟩ = some (.int .u64 u0) := HS.out.cell 2
        have kS3 : v2.cell? ⟨w.heap.size, 3, none⟩ = some (.int .u64 u1) := HS.out.cell 3
        have kS4 : v2.cell? ⟨w.heap.size, 4, none⟩ = some (.int .u64 d0) := HS.out.cell 4
        have kS5 : v2.cell? ⟨w.heap.size, 5, none⟩ = some (.int .u64 d1) := HS.out.cell 5
        have kC0 : v2.cell? ⟨w.heap.size + 1, 0, none⟩ = some (.int .i64 p) := HC.out.cell 0
        have kC1 : v2.cell? ⟨w.heap.size + 1, 1, none⟩ = some (.int .i64 (-1)) := HC.out.cell 1
        have kC2 : v2.cell? ⟨w.heap.size + 1, 2, none⟩ = some (.int .i64 md) := HC.out.cell 2
        have kC3 : v2.cell? ⟨w.heap.size + 1, 3, none⟩ = some (.int .i64 le) := HC.out.cell 3
        have kC4 : v2.cell? ⟨w.heap.size + 1, 4, none⟩ = some (.bool wa) := HC.out.cell 4
        have kC5 : v2.cell? ⟨w.heap.size + 1, 5, none⟩ = some (.slice A n c) := HC.out.cell 5
        cases c2
        · go_wp2_with fail
          refine (Y2h.out _).mono ?_
          rintro e v3 ⟨rfl, hb⟩
          clear kS0 kS1 kS2 kS3 kS4 kS5 kC0 kC1 kC2 kC3 kC4 kC5
          have HS := Lib.hid (Blk.next (w := v2) HS.out hb)
          have HC := Lib.hid (Blk.next (w := v2) HC.out hb)
          have EE := Lib.hid (EE.out.trans (hb.mono EE.out.size))
          clear hb
          have kS0 : v3.cell? ⟨w.heap.size, 0, none⟩ = some (.int .u64 w0) := HS.out.cell 0
          have kS1 : v3.cell? ⟨w.heap.size, 1, none⟩ = some (.int .u64 w1) := HS.out.cell 1
          have kS2 : v3.cell? ⟨w.heap.size, 2, none⟩ = some (.int .u64 u0) := HS.out.cell 2
          have kS3 : v3.cell? ⟨w.heap.size, 3, none⟩ = some (.int .u64 u1) := HS.out.cell 3
          have kS4 : v3.cell? ⟨w.heap.size, 4, none⟩ = some (.int .u64 d0) := HS.out.cell 4
          have kS5 : v3.cell? ⟨w.heap.size, 5, none⟩ = some (.int .u64 d1) := HS.out.cell 5
          have kC0 : v3.cell? ⟨w.heap.size + 1, 0, none⟩ = some (.int .i64 p) := HC.out.cell 0
          have kC1 : v3.cell? ⟨w.heap.size + 1, 1, none⟩ = some (.int .i64 (-1)) := HC.out.cell 1
          have kC2 : v3.cell? ⟨w.heap.size + 1, 2, none⟩ = some (.int .i64 md) := HC.out.cell 2
          have kC3 : v3.cell? ⟨w.heap.size + 1, 3, none⟩ = some (.int .i64 le) := HC.out.cell 3
          have kC4 : v3.cell? ⟨w.heap.size + 1, 4, none⟩ = some (.bool wa) := HC.out.cell 4
          have kC5 : v3.cell? ⟨w.heap.size + 1, 5, none⟩ = some (.slice A n c) := HC.out.cell 5
          cases y2
          · go_wp2_with fail
            refine (C1h.out _).mono ?_
            rintro e v4 ⟨rfl, hb⟩
            clear kS0 kS1 kS2 kS3 kS4 kS5 kC0 kC1 kC2 kC3 kC4 kC5
            have HS := Lib.hid (Blk.next (w := v3) HS.out hb)
            have HC := Lib.hid (Blk.next (w := v3) HC.out hb)
            have EE := Lib.hid (EE.out.trans (hb.mono EE.out.size))
            clear hb
            have kS0 : v4.cell? ⟨w.heap.size, 0, none⟩ = some (.int .u64 w0) := HS.out.cell 0
            have kS1 : v4.cell? ⟨w.heap.size, 1, none⟩ = some (.int .u64 w1) := HS.out.cell 1
            have kS2 : v4.cell? ⟨w.heap.size, 2, none⟩ = some (.int .u64 u0) := HS.out.cell 2
            have kS3 : v4.cell? ⟨w.heap.size, 3, none⟩ = some (.int .u64 u1) := HS.out.cell 3
            have kS4 : v4.cell? ⟨w.heap.size, 4, none⟩ = some (.int .u64 d0) := HS.out.cell 4
            have kS5 : v4.cell? ⟨w.heap.size, 5, none⟩ = some (.int .u64 d1) := HS.out.cell 5
            have kC0 : v4.cell? ⟨w.heap.size + 1, 0, none⟩ = some (.int .i64 p) := HC.out.cell 0
            have kC1 : v4.cell? ⟨w.heap.size + 1, 1, none⟩ = some (.int .i64 (-1)) := HC.out.cell 1
            have kC2 : v4.cell? ⟨w.heap.size + 1, 2, none⟩ = some (.int .i64 md) := HC.out.cell 2
            have kC3 : v4.cell? ⟨w.heap.size + 1, 3, none⟩ = some (.int .i64 le) := HC.out.cell 3
            have kC4 : v4.cell? ⟨w.heap.size + 1, 4, none⟩ = some (.bool wa) := HC.out.cell 4
            have kC5 : v4.cell? ⟨w.heap.size + 1, 5, none⟩ = some (.slice A n c) := HC.out.cell 5
            cases c1
            · go_wp2_with fail
              go_ret
              exact ⟨by have h := ANS2.out; rw [← h]; first | rfl | (cases c2 <;> rfl) | (cases c1 <;> rfl), EE.out⟩
            · go_wp2_with fail
              go_ret
              exact ⟨by have h := ANS2.out; rw [← h]; first | rfl | (cases c2 <;> rfl) | (cases c1 <;> rfl), EE.out⟩
          · go_wp2_with fail
            go_ret
            exact ⟨by have h := ANS2.out; rw [← h]; first | rfl | (cases c2 <;> rfl) | (cases c1 <;> rfl), EE.out⟩
        · go_wp2_with fail
          go_ret
          exact ⟨by have h := ANS2.out; rw [← h]; first | rfl | (cases c2 <;> rfl) | (cases c1 <;> rfl), EE.out⟩
end Go.Proofs.Ytffcmfpadaebdaa
