/- The walk of BitsOrder: it answers true for every input, and leaves all old blocks as they were. No condition but the laid tables, which are tied to the text. -/
import Derived.Test.YtdcollehdhkngaaDoorRows
import Derived.Test.YtdcollehdhkngaaDoorRowKit
import Derived.Test.YtdcollehdhkngaaDoorRowS
import Derived.Test.YtdcollehdhkngaaDoorBlocks
import Derived.Test.YtdcollehdhkngaaDoorSlicesEq
import Derived.Test.YtdcollehdhkngaaDoorSlicesEqM
import Derived.Test.YtdcollehdhkngaaDoorRowL
import Derived.Test.YtdcollehdhkngaaDoorMakeI
import Derived.Test.YtdcollehdhkngaaDoorBitsMath
import Derived.Test.YtdcollehdhkngaaDoorBitsA2
import Derived.Test.YtdcollehdhkngaaDoorBitsD
import Derived.Test.YtdcollehdhkngaaDoorBitsE
import Derived.Test.YtdcollehdhkngaaDoorBitsG
import Derived.Test.YtdcollehdhkngaaDoorBitsH
import Derived.Test.YtdcollehdhkngaaDoorBitsJ
import Derived.Test.YtdcollehdhkngaaDoorBitsK
import Derived.Test.YtdcollehdhkngaaDoorBitsL
import Derived.Test.YtdcollehdhkngaaDoorBitsN
import Derived.Test.YtdcollehdhkngaaDoorBitsP
import Derived.Test.YtdcollehdhkngaaDoorBitsQ
import Derived.Test.YtdcollehdhkngaaDoorBitsU
import Derived.Test.YtdcollehdhkngaaDoorBitsV
import Derived.Test.YtdcollehdhkngaaDoorBitsWa
import Derived.Test.YtdcollehdhkngaaDoorBitsX
import Derived.WalkKit
import Derived.ProofKit
import Derived.OpenShut
import Derived.Deep.QuietTactic
import Derived.BigQuiet
import Derived.Lib.SmallJoins
import Derived.Lib.Hide
import Derived.WalkSpells
import Derived.WalkLawsBesides
import Derived.Lib.TrailingZeros
import Derived.Lib.LaidTab
import Derived.Lib.LaidU8
import Derived.Deep.LoopGhost
import Derived.Deep.RegionHeld3
import Derived.IntWalk
namespace Go.Proofs.YtdcollehdhkngaaDoor.bitsOrder
open Go.ChangeShapes Go.WideShapes Go.ChangeAt Go.RowKit Go.Joins
set_option linter.unusedSimpArgs false
set_option linter.unusedVariables false

theorem bz_gT : Tryd.prog.globalNamed "math/bits.deBruijn64tab" = some 0 := by kernel_rfl
theorem bz_gTType : (Tryd.prog.globals[0]?).map (·.type) = some 111 := by kernel_rfl
theorem tz_of_laid {w : World} (h0 : laidMetH Tryd.prog Rows.bitsOrderRow.laid w) : TzT w := by
  have h : laidMet Tryd.prog Rows.bitsOrderRow.laid w := h0
  obtain ⟨g', t', cs, fuel, p, hg', ht', hvar, hd⟩ := Lib.laidMet.reads h (.head _)
  obtain rfl := Option.some.inj (bz_gT.symm.trans hg')
  obtain rfl := Option.some.inj (bz_gTType.symm.trans ht')
  have e := Lib.cells_of_tab (zs := Lib.deBruijn64tab.map Int.ofNat) Tryd.underlying111 Tryd.underlying5 (by kernel_rfl) (by kernel_rfl) hd
  unfold World.var? at hvar
  rw [bz_gT] at hvar
  simp only [Option.bind_some] at hvar
  split at hvar
  · rename_i cs' t fr hg
    cases hvar
    intro j hj
    show w.cell? _ = _
    rw [cell_of_row w _ j cs t fr hg, ← Array.getElem?_toList, e, List.getElem?_map, List.getElem?_map, List.getElem?_eq_getElem hj, List.getD_eq_getElem?_getD, List.getElem?_eq_getElem hj]
    rfl
  · cases hvar
theorem below_cut (F : Nat → Bool) (n : Int) : (setV fun j => F j && lowF n j) = setV (cutF F 0 n) := setV_congr fun j _ => by
  unfold cutF lowF; simp
theorem from_cut (F : Nat → Bool) (n : Int) : (setV fun j => F j && !lowF n j) = setV (cutF F n 128) := setV_congr fun j hj => by
  unfold cutF lowF
  rw [decide_eq_true (show (j : Int) < 128 by omega), Bool.and_true]
  congr 1
  by_cases h : n ≤ (j : Int)
  · simp [h]
  · simp [h]; omega
theorem range_cut (n m : Int) : (setV fun j => lowF m j && !lowF n j) = setV (cutF (fun _ => true) n m) := setV_congr fun j _ => by
  unfold cutF lowF
  by_cases h : n ≤ (j : Int)
  · by_cases h2 : (j : Int) < m
    · simp [h, h2]
    · simp [h, h2]
  · by_cases h2 : (j : Int) < m
    · simp [h, h2]; omega
    · simp [h, h2]
theorem in_of_wf {z : Int} (h : (Lit.int .i64 z).wf = true) : -9223372036854775808 ≤ z ∧ z ≤ 9223372036854775807 := by simpa [Lit.wf, IntKind.min, IntKind.max, IntKind.signed, IntKind.bits] using h
set_option maxRecDepth 100000 in
set_option maxHeartbeats 4000000 in
theorem walk_f (F : Nat → Bool) (n m : Int) (hn : -9223372036854775808 ≤ n) (w : World) (hT : TzT w) :
    Calls Tryd.prog 5 #[setV F, .int .i64 n, .int .i64 m] w fun e w' => e = .returned (.bool true) ∧ Below w.heap.size w w' := by
  have HT := Lib.hid hT
  have PB := fun w => below_any F n w
  have DB := fun w => rrange_any F 0 n w
  have PF := fun w => from_any F n w
  have DF := fun w => rrange_any F n 128 w
  have PR := fun w => range_any n m w
  have DR := fun w => rrange_any (fun _ => true) n m w
  simp only [below_cut] at PB
  simp only [from_cut] at PF
  simp only [range_cut] at PR
  rw [full_set] at DR
  have DI := fun w => items_any F w
  have PN := fun w hT => next_any F n w hT
  have PP := fun w => prev_any F n hn w
  have PA := fun w hT => lawall_any F w hT
  have IW := fun i h => itL_wf F 128 (Nat.le_refl _) i h
  have IL := itL_len F 128
  have LU := lo_up F n
  have HD := hi_dn F n
  unfold setV at *
  obtain ⟨x, hX⟩ : ∃ x, wordX F = x := ⟨_, rfl⟩
  obtain ⟨y, hY⟩ : ∃ y, wordY F = y := ⟨_, rfl⟩
  obtain ⟨p0, hp0⟩ : ∃ x, wordX (cutF F 0 n) = x := ⟨_, rfl⟩
  obtain ⟨p1, hp1⟩ : ∃ x, wordY (cutF F 0 n) = x := ⟨_, rfl⟩
  obtain ⟨q0, hq0⟩ : ∃ x, wordX (cutF F n 128) = x := ⟨_, rfl⟩
  obtain ⟨q1, hq1⟩ : ∃ x, wordY (cutF F n 128) = x := ⟨_, rfl⟩
  obtain ⟨r0, hr0⟩ : ∃ x, wordX (cutF (fun _ => true) n m) = x := ⟨_, rfl⟩
  obtain ⟨r1, hr1⟩ : ∃ x, wordY (cutF (fun _ => true) n m) = x := ⟨_, rfl⟩
  obtain ⟨l, hl⟩ : ∃ l, itL F 128 = l := ⟨_, rfl⟩
  obtain ⟨N, hN⟩ : ∃ N, l.length = N := ⟨_, rfl⟩
  simp only [hX, hY, hp0, hp1, hq0, hq1, hr0, hr1, hl, hN] at PB DB PF DF PR DR DI PN PP PA IL LU HD IW ⊢
  replace PB := Lib.hid PB
  replace DB := Lib.hid DB
  replace PF := Lib.hid PF
  replace DF := Lib.hid DF
  replace PR := Lib.hid PR
  replace DR := Lib.hid DR
  replace DI := Lib.hid DI
  replace PN := Lib.hid PN
  replace PP := Lib.hid PP
  replace PA := Lib.hid PA
  replace LU := Lib.hid LU
  replace HD := Lib.hid HD
  have HN := Lib.hid hN
  have EQ0 := set_same p0 p1
  have EQ1 := set_same q0 q1
  have EQ2 := set_same r0 r1
  clear hX hY hp0 hp1 hq0 hq1 hr0 hr1 hl hN hT hn
  go_enter Tryd.func5, Tryd.ntmps5
  go_wp2_with fail
  have B1 := Blk.new w #[(.int .u64 x : Value), .int .u64 y] 24
  have BE := (Below.refl w.heap.size w).alloc (Nat.le_refl _) (.cells #[(.int .u64 x : Value), .int .u64 y] 24)
  obtain ⟨V, hV⟩ : ∃ V, w.alloc (.cells #[(.int .u64 x : Value), .int .u64 y] 24) = V := ⟨_, rfl⟩
  rw [hV] at B1 BE ⊢
  obtain ⟨c0, c1, _, _⟩ := B1.two
  have BEh := Lib.hid BE
  clear hV B1 BE
  go_region_held3 (fun W => W.cell? ⟨w.heap.size, 0, none⟩ = some (.int .u64 x) ∧ W.cell? ⟨w.heap.size, 1, none⟩ = some (.int .u64 y))
    (go_keep)
    (first
      | (go_at_call 24; refine (PB.out (V.drew)).mono ?_; rintro e v1 ⟨rfl, hb⟩; have nc00 := Lib.hid (bkeep (w := V.drew) hb c0); have nc10 := Lib.hid (bkeep (w := V.drew) hb c1); clear c0 c1; have c0 := nc00.out; have c1 := nc10.out; have BEh1 := Lib.hid ((BEh.out.drew).trans (hb.mono (BEh.out.drew).size)); clear hb)
      | (go_at_call_of 25 (Value.int IntKind.i64 0); refine (DB.out (v1)).mono ?_; rintro e v2 ⟨rfl, hb⟩; have nc01 := Lib.hid (bkeep (w := v1) hb c0); have nc11 := Lib.hid (bkeep (w := v1) hb c1); clear c0 c1; have c0 := nc01.out; have c1 := nc11.out; have BEh2 := Lib.hid (BEh1.out.trans (hb.mono BEh1.out.size)); clear hb)
      | (go_at_call 26; refine (PF.out (v2)).mono ?_; rintro e v3 ⟨rfl, hb⟩; have nc02 := Lib.hid (bkeep (w := v2) hb c0); have nc12 := Lib.hid (bkeep (w := v2) hb c1); clear c0 c1; have c0 := nc02.out; have c1 := nc12.out; have BEh3 := Lib.hid (BEh2.out.trans (hb.mono BEh2.out.size)); clear hb)
      | (go_at_call_of 25 (Value.int IntKind.i64 128); refine (DF.out (v3)).mono ?_; rintro e v4 ⟨rfl, hb⟩; have nc03 := Lib.hid (bkeep (w := v3) hb c0); have nc13 := Lib.hid (bkeep (w := v3) hb c1); clear c0 c1; have c0 := nc03.out; have c1 := nc13.out; have BEh4 := Lib.hid (BEh3.out.trans (hb.mono BEh3.out.size)); clear hb)
      | (go_at_call 27; refine (PR.out (v4)).mono ?_; rintro e v5 ⟨rfl, hb⟩; have nc04 := Lib.hid (bkeep (w := v4) hb c0); have nc14 := Lib.hid (bkeep (w := v4) hb c1); clear c0 c1; have c0 := nc04.out; have c1 := nc14.out; have BEh5 := Lib.hid (BEh4.out.trans (hb.mono BEh4.out.size)); clear hb)
      | (go_at_call 28; refine (full_any (v5)).mono ?_; rintro e v6 ⟨rfl, hb⟩; have nc05 := Lib.hid (bkeep (w := v5) hb c0); have nc15 := Lib.hid (bkeep (w := v5) hb c1); clear c0 c1; have c0 := nc05.out; have c1 := nc15.out; have BEh6 := Lib.hid (BEh5.out.trans (hb.mono BEh5.out.size)); clear hb)
      | (go_at_call_of 25 (Value.int IntKind.i64 m); refine (DR.out (v6)).mono ?_; rintro e v7 ⟨rfl, hb⟩; have nc06 := Lib.hid (bkeep (w := v6) hb c0); have nc16 := Lib.hid (bkeep (w := v6) hb c1); clear c0 c1; have c0 := nc06.out; have c1 := nc16.out; have BEh7 := Lib.hid (BEh6.out.trans (hb.mono BEh6.out.size)); clear hb))
  go_wp2_with fail
  refine (DI.out _).mono ?_
  rintro e w8 ⟨LA, LC, rfl, hR, hb⟩
  have RL := Lib.hid hR
  have E8 := Lib.hid (BEh7.out.trans (hb.mono BEh7.out.size))
  have n0 := Lib.hid (bkeep hb c0)
  have n1 := Lib.hid (bkeep hb c1)
  clear c0 c1 hR hb
  have c0 := n0.out
  have c1 := n1.out
  have hNI : (N : Int) ≤ 128 := by omega
  go_wp2_with fail
  go_loopg [8, 10, 12] (N + 1) (fun g nx so i wr => ∃ k : Nat, k ≤ N ∧ g = N + 1 - k ∧ i = .int .i64 ((N : Int) - 1 - k) ∧ nx = .int .i64 (upA l n N k).1 ∧ so = .bool (upA l n N k).2 ∧ wr = w8)
  case atStart => exact ⟨0, by omega, rfl, by simp, rfl, rfl, rfl⟩
  case round =>
    obtain ⟨k, hk, rfl, rfl, rfl, rfl, rfl⟩ := hrel
    by_cases h : k < N
    · obtain ⟨b, off, rfl, hlt, hc⟩ := rdI_row RL.out (by have := HN.out; omega)
      have ck := hc (N - 1 - k) (by have := HN.out; omega)
      obtain ⟨z, hz⟩ : ∃ z, zat l (N - 1 - k) = z := ⟨_, rfl⟩
      have U : Hid (upA l n N (k + 1) = if n ≤ z then (z, true) else upA l n N k) := Lib.hid (by rw [← hz]; rfl)
      rw [hz] at ck
      have e1 : ((N : Int) - 1 - (k : Int)).toNat = N - 1 - k := by omega
      have g1 : (0 : Int) ≤ (N : Int) - 1 - k := by omega
      have g2 : (N : Int) - 1 - k < N := by omega
      clear hc hz
      by_cases hz : n ≤ z
      · have U1 : Hid (upA l n N (k + 1) = (z, true)) := Lib.hid (by rw [U.out, if_pos hz])
        clear U
        go_wp2_with fail
        go_roundg (N + 1 - (k + 1))
        case measure => omega
        case rel => exact ⟨k + 1, by omega, rfl, by go_num, by rw [U1.out], by rw [U1.out], rfl⟩
      · have U1 : Hid (upA l n N (k + 1) = upA l n N k) := Lib.hid (by rw [U.out, if_neg hz])
        clear U
        go_wp2_with fail
        go_roundg (N + 1 - (k + 1))
        case measure => omega
        case rel => exact ⟨k + 1, by omega, rfl, by go_num, by rw [U1.out], by rw [U1.out], rfl⟩
    · obtain rfl : k = N := by omega
      obtain ⟨un, hun⟩ : ∃ un, (upA l n k k).1 = un := ⟨_, rfl⟩
      obtain ⟨us, hus⟩ : ∃ us, (upA l n k k).2 = us := ⟨_, rfl⟩
      rw [hun, hus] at LU ⊢
      have g1 : (k : Int) - 1 - k < 0 := by omega
      clear hun hus
      go_wp2_with fail
      go_loopg [9, 11, 13] k (fun g pv an i wr2 => ∃ j : Nat, j ≤ k ∧ g = k - j ∧ i = .int .i64 j ∧ pv = .int .i64 (dnA l n j).1 ∧ an = .bool (dnA l n j).2 ∧ wr2 = wr)
      case atStart => exact ⟨0, by omega, rfl, rfl, rfl, rfl, rfl⟩
      case round =>
        obtain ⟨j, hj, rfl, rfl, rfl, rfl, rfl⟩ := hrel
        by_cases h : j < k
        · obtain ⟨b, off, rfl, hlt, hc⟩ := rdI_row RL.out (by have := HN.out; omega)
          have ck := hc j (by have := HN.out; omega)
          obtain ⟨z, hz⟩ : ∃ z, zat l j = z := ⟨_, rfl⟩
          have U : Hid (dnA l n (j + 1) = if z ≤ n then (z, true) else dnA l n j) := Lib.hid (by rw [← hz]; rfl)
          rw [hz] at ck
          have g2 : (j : Int) < k := by omega
          clear hc hz
          by_cases hz : z ≤ n
          · have U1 : Hid (dnA l n (j + 1) = (z, true)) := Lib.hid (by rw [U.out, if_pos hz])
            clear U
            go_wp2_with fail
            go_roundg (k - (j + 1))
            case measure => omega
            case rel => exact ⟨j + 1, by omega, rfl, by go_num, by rw [U1.out], by rw [U1.out], rfl⟩
          · have U1 : Hid (dnA l n (j + 1) = dnA l n j) := Lib.hid (by rw [U.out, if_neg hz])
            clear U
            go_wp2_with fail
            go_roundg (k - (j + 1))
            case measure => omega
            case rel => exact ⟨j + 1, by omega, rfl, by go_num, by rw [U1.out], by rw [U1.out], rfl⟩
        · obtain rfl : j = k := by omega
          obtain ⟨dn, hdn⟩ : ∃ un, (dnA l n j).1 = un := ⟨_, rfl⟩
          obtain ⟨ds, hds⟩ : ∃ us, (dnA l n j).2 = us := ⟨_, rfl⟩
          rw [hdn, hds] at HD ⊢
          clear hdn hds g1 h
          go_wp2_with fail
          refine (PN.out _ (HT.out.kept E8.out)).mono ?_
          rintro e w10 ⟨r, b, rfl, hlo, hb⟩
          obtain ⟨rfl, rfl⟩ := hlo.same LU.out
          have E10 := Lib.hid (E8.out.trans (hb.mono E8.out.size))
          have R10 := Lib.hid (RL.out.kept hb)
          have m0 := Lib.hid (bkeep hb c0)
          have m1 := Lib.hid (bkeep hb c1)
          clear c0 c1 hb hlo RL E8 n0 n1 LU
          have c0 := m0.out
          have c1 := m1.out
          go_wp2_with fail
          refine (PP.out _).mono ?_
          rintro e w11 ⟨r', b', rfl, hhi, hb⟩
          obtain ⟨rfl, rfl⟩ := hhi.same HD.out
          have E11 := Lib.hid (E10.out.trans (hb.mono E10.out.size))
          have R11 := Lib.hid (R10.out.kept hb)
          have m2 := Lib.hid (bkeep hb c0)
          have m3 := Lib.hid (bkeep hb c1)
          clear c0 c1 hb hhi R10 E10 m0 m1 HD
          have c0 := m2.out
          have c1 := m3.out
          have EL := Lib.hid (fun A B c d w ha hb => equal_int A B c d l w ha hb (by have := HN.out; omega))
          have HNo := HN.out
          rw [HNo] at EL
          clear HNo
          go_wp2_with (first
            | (go_at_call 32; refine (PA.out _ (HT.out.kept E11.out)).mono ?_; rintro e w12 ⟨A2, C2, rfl, hr2, hb⟩; have R12 := Lib.hid hr2; have S12 := Lib.hid (R11.out.kept hb); have E12 := Lib.hid (E11.out.trans (hb.mono E11.out.size)); clear hr2 hb)
            | (go_at_call 31; refine (EL.out _ _ _ _ _ R12.out S12.out).mono ?_; rintro e w13 ⟨rfl, q, rfl⟩)
            | (go_at_call 20; refine (balive _ ((HT.out.kept (below_drewN E12.out _)).c)).mono ?_; rintro e w14 ⟨rfl, hb⟩; have E14 := Lib.hid ((below_drewN E12.out _).trans (hb.mono (below_drewN E12.out _).size)); clear hb))
          go_ret
          exact ⟨rfl, E14.out⟩
theorem walk {a b n m : Int} (w0 : (Lit.int .u64 a).wf = true) (w1 : (Lit.int .u64 b).wf = true) (w2 : (Lit.int .i64 n).wf = true) (_ : (Lit.int .i64 m).wf = true) (w : World) (hL : laidMetH Tryd.prog Rows.bitsOrderRow.laid w) :
    Calls Tryd.prog 5 #[.agg #[.int .u64 a, .int .u64 b], .int .i64 n, .int .i64 m] w fun e w' => e = .returned (.bool true) ∧ Below w.heap.size w w' := by
  have ha : 0 ≤ a ∧ a ≤ 18446744073709551615 := by simpa [Lit.wf, IntKind.min, IntKind.max, IntKind.signed, IntKind.bits] using w0
  have hb : 0 ≤ b ∧ b ≤ 18446744073709551615 := by simpa [Lit.wf, IntKind.min, IntKind.max, IntKind.signed, IntKind.bits] using w1
  obtain ⟨x, rfl⟩ := Int.eq_ofNat_of_zero_le ha.1
  obtain ⟨y, rfl⟩ := Int.eq_ofNat_of_zero_le hb.1
  have := walk_f (mem x y) n m (in_of_wf w2).1 w (tz_of_laid hL)
  rwa [← setV_mem (by omega) (by omega)] at this


end Go.Proofs.YtdcollehdhkngaaDoor.bitsOrder
