/- The walk of SpanLens: it answers true for every input, and leaves all old blocks as they were. No condition. -/
import Derived.Test.YtnjdeikikdieoaaRows
import Derived.Test.YtnjdeikikdieoaaRowKit
import Derived.Test.YtnjdeikikdieoaaRowS
import Derived.Test.YtnjdeikikdieoaaRowZ
import Derived.Test.YtnjdeikikdieoaaSlicesEq
import Derived.Test.YtnjdeikikdieoaaSlicesEqM
import Derived.Test.YtnjdeikikdieoaaRowL
import Derived.Test.YtnjdeikikdieoaaRowM
import Derived.Test.YtnjdeikikdieoaaMakeI
import Derived.Test.YtnjdeikikdieoaaBlocks
import Derived.Test.YtnjdeikikdieoaaSpanMath
import Derived.Test.YtnjdeikikdieoaaSpanA
import Derived.Test.YtnjdeikikdieoaaSpanB
import Derived.Test.YtnjdeikikdieoaaSpanC
import Derived.Test.YtnjdeikikdieoaaSpanD
import Derived.Test.YtnjdeikikdieoaaSpanF
import Derived.Test.YtnjdeikikdieoaaSpanI
import Derived.WalkKit
import Derived.ProofKit
import Derived.OpenShut
import Derived.Deep.QuietTactic
import Derived.BigQuiet
import Derived.Lib.SmallJoins
import Derived.Lib.Hide
import Derived.WalkSpells
import Derived.WalkLawsBesides
import Derived.Deep.LoopGhost
import Derived.OwnWalk
import Derived.BigRegion
import Derived.Deep.RegionHeld3
import Derived.IntWalk
namespace Go.Proofs.Ytnjdeikikdieoaa.spanLens
open Go.ChangeShapes Go.WideShapes Go.ChangeAt Go.RowKit Go.Joins
set_option linter.unusedSimpArgs false
set_option linter.unusedVariables false

theorem kind0 (x : List (Int × Int)) (n : Int) : kindF 0 x [] n = hasL x n := by unfold kindF; simp
theorem kind1 (a b : List (Int × Int)) (n : Int) : kindF 1 a b n = (hasL a n && hasL b n) := by unfold kindF; simp
theorem kind2 (a b : List (Int × Int)) (n : Int) : kindF 2 a b n = (hasL a n && !hasL b n) := by unfold kindF; simp
theorem make_lo {w : World} {va vb : Value} {a b : List (Int × Int)} (ha : IsS w va a) (hb : IsS w vb b) (kind : Int) : RtL LO (makeL a b kind) ∧ ∀ n, hasL (makeL a b kind) n = kindF kind a b n :=
  make_spec a b kind LO (fun p hp => by
    have h := (List.mem_append.1 hp).elim (zS_in ha p) (zS_in hb p)
    have e : LO = -9223372036854775809 := rfl
    omega)
theorem sets_split (f g : Bool) : f = ((f && g) || (f && !g)) := by cases f <;> cases g <;> rfl
set_option maxRecDepth 100000 in
set_option maxHeartbeats 8000000 in
theorem walk {A B : Option Addr} {ca cb k1 k2 : Nat} {z1 z2 : Nat → Nat → Int} {w : World} (a1 : k1 ≤ ca) (a2 : ca ≤ maxLen) (ra : RdZ w 2 A k1 z1) (a3 : A = none → ca = 0) (b1 : k2 ≤ cb) (b2 : cb ≤ maxLen) (rb : RdZ w 2 B k2 z2) (b3 : B = none → cb = 0) :
    Calls Try.prog 5 #[.slice A k1 ca, .slice B k2 cb] w fun e w' => e = .returned (.bool true) ∧ Below w.heap.size w w' := by
  have ha := isS_arg ra a1 a2 a3
  have hb := isS_arg rb b1 b2 b3
  obtain ⟨X, hX⟩ : ∃ X, listZ z1 k1 = X := ⟨_, rfl⟩
  obtain ⟨Y, hY⟩ : ∃ Y, listZ z2 k2 = Y := ⟨_, rfl⟩
  have hXl : X.length = k1 := by rw [← hX, listZ_len]
  have hYl : Y.length = k2 := by rw [← hY, listZ_len]
  rw [hX] at ha
  rw [hY] at hb
  have HX := Lib.hid ha; have HY := Lib.hid hb
  have hM : maxLen ≤ 9223372036854775807 := by decide
  clear ra rb hX hY ha hb
  by_cases g1 : 40 < k1
  · have g1' : (40 : Int) < (k1 : Int) := by omega
    go_enter Try.func5, Try.ntmps5
    go_wp2_with fail
    go_ret
    exact ⟨rfl, Below.refl _ _⟩
  by_cases g2 : 40 < k2
  · have g1' : ¬ (40 : Int) < (k1 : Int) := by omega
    have g2' : (40 : Int) < (k2 : Int) := by omega
    go_enter Try.func5, Try.ntmps5
    go_wp2_with fail
    go_ret
    exact ⟨rfl, Below.refl _ _⟩
  have g1' : ¬ (40 : Int) < (k1 : Int) := by omega
  have g2' : ¬ (40 : Int) < (k2 : Int) := by omega
  have K1 := Lib.hid (make0_any _ _ X [] w HX.out (isS_nil w) (by omega) (by simp))
  have L1 := make_lo HX.out (isS_nil w) 0
  have L2 := make_lo HY.out (isS_nil w) 0
  have K2 := Lib.hid (fun w1 (hb : Below w.heap.size w w1) => make0_any _ _ Y [] w1 (HY.out.kept hb) (isS_nil w1) (by omega) (by simp))
  obtain ⟨a, hA⟩ : ∃ a, makeL X [] 0 = a := ⟨_, rfl⟩
  obtain ⟨b, hB⟩ : ∃ b, makeL Y [] 0 = b := ⟨_, rfl⟩
  unfold MakR at K1 K2
  rw [hA] at K1 L1
  rw [hB] at K2 L2
  have RA := Lib.hid L1.1; have RB := Lib.hid L2.1
  clear L1 L2 hA hB
  go_enter Try.func5, Try.ntmps5
  go_wp2_with fail
  refine K1.out.mono ?_
  rintro e w1 ⟨va, rfl, ha, hb1, hal⟩
  have HB1 := Lib.hid hb1
  have hal : a.length ≤ 80 := by simp at hal; omega
  have HA1 := Lib.hid ha
  have hb1s := hb1.size
  clear ha hb1
  go_wp2_with fail
  refine (K2.out w1 HB1.out).mono ?_
  rintro e w2 ⟨vb, rfl, hb, hb2, hbl⟩
  have HB2 := Lib.hid (HB1.out.trans (hb2.mono hb1s))
  have hbl : b.length ≤ 80 := by simp at hbl; omega
  have HA2 := Lib.hid (HA1.out.kept hb2)
  have HBB := Lib.hid hb
  obtain ⟨Aa, ka, rfl, _, _, _, _⟩ := HA2.out
  clear hb hb2 HA1 HX HY K1 K2 hb1s
  obtain ⟨na, hna⟩ : ∃ n, a.length = n := ⟨_, rfl⟩
  have HNA := Lib.hid hna
  have HRA : Hid (RdZ w2 2 Aa na (zS a)) := Lib.hid (by
    obtain ⟨A', c', e, r, _⟩ := HA2.out
    simp only [Value.slice.injEq] at e
    rw [← hna, e.1]; exact r)
  have HWF : Hid (∀ k, k < na → (-9223372036854775808 ≤ zS a k 0 ∧ zS a k 0 ≤ 9223372036854775807) ∧ (-9223372036854775808 ≤ zS a k 1 ∧ zS a k 1 ≤ 9223372036854775807)) := Lib.hid fun k hk => by
    have := zS_in HA2.out _ (getD_mem (L := a) (k := k) (by omega))
    exact this
  have HLF : Hid (lenL a = lenL (a.take na)) := Lib.hid (by rw [← hna, List.take_length])
  have hnal : na ≤ 80 := by rw [← hna]; exact hal
  rw [hna]
  clear hna
  go_wp2_with fail
  go_loopw [7, 8] (fun s i wr => ∃ k : Nat, k ≤ na ∧ i = .int .i64 k ∧ s = .int .u64 (lenL (a.take k) % 18446744073709551616) ∧ Hid (Below w2.heap.size w2 wr)) (fun _ i _ => na - (intOf i).toNat)
  case atStart => exact ⟨0, by omega, rfl, rfl, Lib.hid (Below.refl _ _)⟩
  case round =>
    obtain ⟨k, hk, rfl, rfl, HB⟩ := hrel
    by_cases h : k < na
    · obtain ⟨bb, oo, rfl, _, hcell⟩ := rdZ_row (RdZ.kept HRA.out HB.out) (by omega) (by omega)
      have c0 : wr.cell? ⟨bb, oo + k * 2, none⟩ = _ := hcell k 0 h (by omega)
      have c1 := hcell k 1 h (by omega)
      have hw := HWF.out k h
      have hlt := lenL_take a k (by rw [HNA.out]; exact h)
      obtain ⟨p, hp⟩ : ∃ p, zS a k 0 = p := ⟨_, rfl⟩
      obtain ⟨q, hq⟩ : ∃ q, zS a k 1 = q := ⟨_, rfl⟩
      rw [hp] at c0 hw hlt
      rw [hq] at c1 hw hlt
      obtain ⟨s, hs⟩ : ∃ s, lenL (a.take k) = s := ⟨_, rfl⟩
      rw [hs] at hlt ⊢
      obtain ⟨t, ht⟩ : ∃ t, s % 18446744073709551616 = t := ⟨_, rfl⟩
      rw [ht]
      obtain ⟨wp, hwp⟩ : ∃ x, IntKind.u64.wrap p = x := ⟨_, rfl⟩
      obtain ⟨wq, hwq⟩ : ∃ x, IntKind.u64.wrap q = x := ⟨_, rfl⟩
      obtain ⟨d, hd⟩ : ∃ x, IntKind.u64.wrap (wq - wp) = x := ⟨_, rfl⟩
      have hfin : IntKind.u64.wrap (t + d) = lenL (a.take (k + 1)) % 18446744073709551616 := by
        rw [hlt]
        rw [IntKind.wrap_u64] at hwp hwq hd ⊢
        omega
      have HS : Hid (wr.drew.cell? ⟨bb, oo + k * 2, none⟩ = some (.int .i64 p) ∧ wr.drew.cell? ⟨bb, oo + k * 2 + 1, none⟩ = some (.int .i64 q)) := Lib.hid ⟨c0, c1⟩
      clear hcell hp hq hs ht hlt hw
      go_wp2_with fail
      refine wp_region_held_drew (S := (fun X : World => X.cell? ⟨bb, oo + k * 2, none⟩ = some (.int .i64 p) ∧ X.cell? ⟨bb, oo + k * 2 + 1, none⟩ = some (.int .i64 q))) (by kernel_rfl) HS.out (fun hHeld => ?_)
      clear hHeld
      refine wpAnyH_take (i := 0) (v := ?_) rfl (by kernel_rfl) (by kernel_rfl) (by kernel_rfl) (fun _ _ _ h => h) (Or.inl ⟨by rfl, ?_⟩) HS.out ?_
      rotate_left
      · (intro wS hSw; (try dsimp only at hSw); go_simp; try with_reducible rfl)
      simp only [Act.put, List.getElem_toArray, List.getElem_cons_zero, List.getElem_cons_succ, List.setIfInBounds_toArray, List.set_cons_zero, List.set_cons_succ]
      refine wpAnyH_take (i := 1) (v := ?_) rfl (by kernel_rfl) (by kernel_rfl) (by kernel_rfl) (fun _ _ _ h => h) (Or.inl ⟨by rfl, ?_⟩) HS.out ?_
      rotate_left
      · (intro wS hSw; (try dsimp only at hSw); go_simp; try with_reducible rfl)
      simp only [Act.put, List.getElem_toArray, List.getElem_cons_zero, List.getElem_cons_succ, List.setIfInBounds_toArray, List.set_cons_zero, List.set_cons_succ]
      refine wpAnyH_take (i := 2) (v := ?_) rfl (by kernel_rfl) (by kernel_rfl) (by kernel_rfl) (fun _ _ _ h => h) (Or.inl ⟨by rfl, ?_⟩) HS.out ?_
      rotate_left
      · (intro wS hSw; (try dsimp only at hSw); go_simp; try with_reducible rfl)
      simp only [Act.put, List.getElem_toArray, List.getElem_cons_zero, List.getElem_cons_succ, List.setIfInBounds_toArray, List.set_cons_zero, List.set_cons_succ]
      refine wpAnyH_take (i := 3) (v := ?_) rfl (by kernel_rfl) (by kernel_rfl) (by kernel_rfl) (fun _ _ _ h => h) (Or.inl ⟨by rfl, ?_⟩) HS.out ?_
      rotate_left
      · (intro wS hSw; (try dsimp only at hSw); go_simp; try with_reducible rfl)
      simp only [Act.put, List.getElem_toArray, List.getElem_cons_zero, List.getElem_cons_succ, List.setIfInBounds_toArray, List.set_cons_zero, List.set_cons_succ]
      refine wpAnyH_take (i := 4) (v := ?_) rfl (by kernel_rfl) (by kernel_rfl) (by kernel_rfl) (fun _ _ _ h => h) (Or.inl ⟨by rfl, ?_⟩) HS.out ?_
      rotate_left
      · (intro wS hSw; (try dsimp only at hSw); go_simp; try with_reducible rfl)
      simp only [Act.put, List.getElem_toArray, List.getElem_cons_zero, List.getElem_cons_succ, List.setIfInBounds_toArray, List.set_cons_zero, List.set_cons_succ]
      refine wpAnyH_take (i := 5) (v := ?_) rfl (by kernel_rfl) (by kernel_rfl) (by kernel_rfl) (fun _ _ _ h => h) (Or.inl ⟨by rfl, ?_⟩) HS.out ?_
      rotate_left
      · (intro wS hSw; (try dsimp only at hSw); go_simp; try with_reducible rfl)
      simp only [Act.put, List.getElem_toArray, List.getElem_cons_zero, List.getElem_cons_succ, List.setIfInBounds_toArray, List.set_cons_zero, List.set_cons_succ]
      refine wpAnyH_take (i := 6) (v := ?_) rfl (by kernel_rfl) (by kernel_rfl) (by kernel_rfl) (fun _ _ _ h => h) (Or.inl ⟨by rfl, ?_⟩) HS.out ?_
      rotate_left
      · (intro wS hSw; (try dsimp only at hSw); go_simp; try with_reducible rfl)
      simp only [Act.put, List.getElem_toArray, List.getElem_cons_zero, List.getElem_cons_succ, List.setIfInBounds_toArray, List.set_cons_zero, List.set_cons_succ]
      refine wpAnyH_take (i := 7) (v := ?_) rfl (by kernel_rfl) (by kernel_rfl) (by kernel_rfl) (fun _ _ _ h => h) (Or.inl ⟨by rfl, ?_⟩) HS.out ?_
      rotate_left
      · (intro wS hSw; (try dsimp only at hSw); go_simp; try with_reducible rfl)
      simp only [Act.put, List.getElem_toArray, List.getElem_cons_zero, List.getElem_cons_succ, List.setIfInBounds_toArray, List.set_cons_zero, List.set_cons_succ]
      refine wpAnyH_take (i := 8) (v := ?_) rfl (by kernel_rfl) (by kernel_rfl) (by kernel_rfl) (fun _ _ _ h => h) (Or.inl ⟨by rfl, ?_⟩) HS.out ?_
      rotate_left
      · (intro wS hSw; (try dsimp only at hSw); go_simp; try with_reducible rfl)
      simp only [Act.put, List.getElem_toArray, List.getElem_cons_zero, List.getElem_cons_succ, List.setIfInBounds_toArray, List.set_cons_zero, List.set_cons_succ]
      refine wpAnyH_take (i := 9) (v := ?_) rfl (by kernel_rfl) (by kernel_rfl) (by kernel_rfl) (fun _ _ _ h => h) (Or.inl ⟨by rfl, ?_⟩) HS.out ?_
      rotate_left
      · (intro wS hSw; (try dsimp only at hSw); go_simp; try with_reducible rfl)
      simp only [Act.put, List.getElem_toArray, List.getElem_cons_zero, List.getElem_cons_succ, List.setIfInBounds_toArray, List.set_cons_zero, List.set_cons_succ]
      refine wpAnyH_take (i := 10) (v := ?_) rfl (by kernel_rfl) (by kernel_rfl) (by kernel_rfl) (fun _ _ _ h => h) (Or.inl ⟨by rfl, ?_⟩) HS.out ?_
      rotate_left
      · (intro wS hSw; (try dsimp only at hSw); go_simp; try with_reducible rfl)
      simp only [Act.put, List.getElem_toArray, List.getElem_cons_zero, List.getElem_cons_succ, List.setIfInBounds_toArray, List.set_cons_zero, List.set_cons_succ]
      refine wpAnyH_take (i := 11) (v := ?_) rfl (by kernel_rfl) (by kernel_rfl) (by kernel_rfl) (fun _ _ _ h => h) (Or.inl ⟨by rfl, ?_⟩) HS.out ?_
      rotate_left
      · (intro wS hSw; (try dsimp only at hSw); go_simp; try with_reducible rfl)
      simp only [Act.put, List.getElem_toArray, List.getElem_cons_zero, List.getElem_cons_succ, List.setIfInBounds_toArray, List.set_cons_zero, List.set_cons_succ]
      refine wpAnyH_take (i := 12) (v := ?_) rfl (by kernel_rfl) (by kernel_rfl) (by kernel_rfl) (fun _ _ _ h => h) (Or.inl ⟨by rfl, ?_⟩) HS.out ?_
      rotate_left
      · (intro wS hSw; (try dsimp only at hSw); go_simp; try with_reducible rfl)
      simp only [Act.put, List.getElem_toArray, List.getElem_cons_zero, List.getElem_cons_succ, List.setIfInBounds_toArray, List.set_cons_zero, List.set_cons_succ]
      refine wpAnyH_take (i := 13) (v := ?_) rfl (by kernel_rfl) (by kernel_rfl) (by kernel_rfl) (fun _ _ _ h => h) (Or.inl ⟨by rfl, ?_⟩) HS.out ?_
      rotate_left
      · (intro wS hSw; (try dsimp only at hSw); go_simp; try with_reducible rfl)
      simp only [Act.put, List.getElem_toArray, List.getElem_cons_zero, List.getElem_cons_succ, List.setIfInBounds_toArray, List.set_cons_zero, List.set_cons_succ]
      refine wpAnyH_take (i := 14) (v := ?_) rfl (by kernel_rfl) (by kernel_rfl) (by kernel_rfl) (fun _ _ _ h => h) (Or.inl ⟨by rfl, ?_⟩) HS.out ?_
      rotate_left
      · (intro wS hSw; (try dsimp only at hSw); go_simp; try with_reducible rfl)
      simp only [Act.put, List.getElem_toArray, List.getElem_cons_zero, List.getElem_cons_succ, List.setIfInBounds_toArray, List.set_cons_zero, List.set_cons_succ]
      refine wpAnyH_take (i := 15) (v := ?_) rfl (by kernel_rfl) (by kernel_rfl) (by kernel_rfl) (fun _ _ _ h => h) (Or.inl ⟨by rfl, ?_⟩) HS.out ?_
      rotate_left
      · (intro wS hSw; (try dsimp only at hSw); go_simp; try with_reducible rfl)
      simp only [Act.put, List.getElem_toArray, List.getElem_cons_zero, List.getElem_cons_succ, List.setIfInBounds_toArray, List.set_cons_zero, List.set_cons_succ]
      refine wpAnyH_done (by kernel_rfl) ?_ _
      clear c0 c1 HS
      go_wp2_with fail
      go_roundw
      case rel => exact ⟨k + 1, by omega, by go_num, by first | rfl | go_num, Lib.hid HB.out.drew⟩
      case measure => simp [intOf]; omega
    · obtain rfl : k = na := by omega
      clear h hk
      rw [← HLF.out]
      have HAW := Lib.hid (HA2.out.kept HB.out); have HBW := Lib.hid (HBB.out.kept HB.out)
      have K1 := Lib.hid (slen_any _ a wr HAW.out (by omega))
      have K2 := Lib.hid (fun w3 (hb : Below wr.heap.size wr w3) => and_any _ vb a b LO LO w3 (HAW.out.kept hb) (HBW.out.kept hb) (rt_wk _ _ RA.out) (rt_wk _ _ RB.out) (Int.le_refl _) (by omega) (by omega))
      have K3 := Lib.hid (fun w3 (hb : Below wr.heap.size wr w3) => sub_any _ vb a b w3 (HAW.out.kept hb) (HBW.out.kept hb) RA.out RB.out (by omega) (by omega))
      have HWX : Hid (Below w.heap.size w wr) := Lib.hid (HB2.out.trans (HB.out.mono HB2.out.size))
      have HIN := Lib.hid (zS_in HA2.out)
      rw [HNA.out] at K1 K2 K3
      obtain ⟨t, ht⟩ : ∃ t, lenL a % 18446744073709551616 = t := ⟨_, rfl⟩
      have HT := Lib.hid ht
      rw [ht] at K1 ⊢
      clear ht HAW HBW
      go_wp2_with fail
      refine K1.out.mono ?_
      rintro e w3 ⟨rfl, b3⟩
      have H3 := Lib.hid b3
      clear b3
      go_wp2_with fail
      refine (K2.out w3 H3.out).mono ?_
      rintro e w4 ⟨v4, R4, rfl, h4, r4, n4, l4, b4⟩
      have H4 := Lib.hid (H3.out.trans (b4.mono H3.out.size))
      have I4 := Lib.hid h4; have R4r := Lib.hid r4; have N4 := Lib.hid n4
      clear h4 r4 n4 b4
      go_wp2_with fail
      refine (slen_any v4 R4 w4 I4.out (by omega)).mono ?_
      rintro e w5 ⟨rfl, b5⟩
      have H5 := Lib.hid (H4.out.trans (b5.mono H4.out.size))
      clear b5
      go_wp2_with fail
      refine (K3.out w5 H5.out).mono ?_
      rintro e w6 ⟨v6, R6, rfl, h6, r6, n6, l6, b6⟩
      have H6 := Lib.hid (H5.out.trans (b6.mono H5.out.size))
      have I6 := Lib.hid h6; have R6r := Lib.hid r6; have N6 := Lib.hid n6
      clear h6 r6 n6 b6
      obtain ⟨m4, hm4⟩ : ∃ x, lenL R4 % 18446744073709551616 = x := ⟨_, rfl⟩
      obtain ⟨m6, hm6⟩ : ∃ x, lenL R6 % 18446744073709551616 = x := ⟨_, rfl⟩
      have hsum : IntKind.u64.wrap (m4 + m6) = t := by
        have hb4 := rt_bounds (a := a) (b := b) R4r.out N4.out HIN.out
        have hb6 := fun p hp => zS_in I6.out p hp
        have := len_parts (k := 18446744073709551616) RA.out R4r.out R6r.out (fun p hp => by have := HIN.out p hp; show p.2 ≤ -9223372036854775809 + ((18446744073709551616 : Nat) : Int); omega) (fun p hp => by have := hb4 p hp; show p.2 ≤ -9223372036854775809 + ((18446744073709551616 : Nat) : Int); omega) (fun p hp => by have := hb6 p hp; show p.2 ≤ -9223372036854775809 + ((18446744073709551616 : Nat) : Int); omega)
          (fun n => by rw [N4.out n, N6.out n]; exact sets_split _ _) (fun n h => by rw [N4.out n, N6.out n] at h; revert h; cases hasL a n <;> cases hasL b n <;> simp)
        have ht := HT.out
        rw [IntKind.wrap_u64, ← hm4, ← hm6, ← ht, this]
        omega
      have htt : (t == t) = true := by simp
      have HM4 := Lib.hid hm4
      rw [hm4]
      clear hm4
      go_wp2_with fail
      refine (slen_any v6 R6 w6 I6.out (by omega)).mono ?_
      rintro e w7 ⟨rfl, b7⟩
      have H7 := Lib.hid (H6.out.trans (b7.mono H6.out.size))
      rw [hm6]
      clear b7 hm6
      go_wp2_with fail
      refine (salive w7).mono ?_
      rintro e w8 ⟨rfl, b8⟩
      have h7 := HWX.out.trans (H7.out.mono HWX.out.size)
      have H8 := Lib.hid (h7.trans (b8.mono h7.size))
      clear b8 h7
      go_wp2_with fail
      go_ret
      exact ⟨rfl, H8.out⟩


end Go.Proofs.Ytnjdeikikdieoaa.spanLens
