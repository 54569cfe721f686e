/- Trips: how often at one stop; how many begin or end at the lowest floor; which shares; the example. -/
import Derived.Test.YtodfjghgcphhhabRows
import Derived.Test.YtodfjghgcphhhabRowKit
import Derived.Test.YtodfjghgcphhhabRowS
import Derived.Test.YtodfjghgcphhhabRowZ
import Derived.Test.YtodfjghgcphhhabSlicesEq
import Derived.Test.YtodfjghgcphhhabBlocks
import Derived.Test.YtodfjghgcphhhabAtKit
import Derived.Test.YtodfjghgcphhhabMapInc
import Derived.WalkKit
import Derived.IntWalk
import Derived.Lib.Hide
import Derived.WalkSpells
import Derived.WalkLawsBesides
import Derived.OwnWalk
import Derived.Deep.QuietTactic
import Derived.BigQuiet
import Derived.Deep.RegionHeld3
import Derived.Deep.LoopGhost
import Derived.BigRegion
import Derived.Below
import Derived.Laws.CopyOwn
import Derived.Test.YtodfjghgcphhhabObsA
namespace Go.Proofs.Ytodfjghgcphhhab
open Go.RowKit Go.Maps
set_option linter.unusedSimpArgs false
set_option linter.unusedVariables false
set_option maxRecDepth 100000 in
set_option maxHeartbeats 4000000 in
theorem obsAt_any (A : Option Addr) (c n : Nat) (z : Nat → Nat → Int) (ca fl : Int) (w : World) (hr : RdZ w 7 A n z) (hn : n ≤ 100) (hc : okI ca) (hf : okI fl) :
    Calls Try.prog 18 #[.slice A n c, .int .i64 ca, .int .i64 fl] w fun e w' => e = .returned (.int .i64 (cntS z ca fl n)) ∧ Below w.heap.size w w' := by
  have KS := Lib.hid (stops_any A c n z w hr hn)
  have MI := Lib.hid (mapIs_st n (okZ_rd hr))
  obtain ⟨R, hR⟩ : ∃ R, cntS z ca fl n = R := ⟨_, rfl⟩
  have HR := Lib.hid hR
  rw [hR]
  clear hr hR
  go_enter Try.func18, Try.ntmps18
  go_wp2_with fail
  refine KS.out.mono ?_
  rintro e w1 ⟨rfl, hown, hb⟩
  have EB := Lib.hid hb
  obtain ⟨q, hq1, hq2, _⟩ := hown.lookup_int stopLaw Try.underlying51 Try.underlying3 (zeroInt w1) (key_of hc hf)
  have h3 := MI.out.2 ca fl hc hf
  dsimp only at h3
  unfold litI at h3
  rw [hq2, HR.out] at h3
  obtain rfl : q = R := lit_inj h3
  unfold stV at hq1
  clear hown hb hq2 h3 hc hf
  go_wp2_with fail
  go_ret
  exact ⟨rfl, EB.out⟩
/-- how many trips begin at the lowest floor; how many others end there -/
def frN (z : Nat → Nat → Int) : Nat → Int
  | 0 => 0
  | n + 1 => if z n 2 = 0 then frN z n + 1 else frN z n
def toN (z : Nat → Nat → Int) : Nat → Int
  | 0 => 0
  | n + 1 => if z n 2 = 0 then toN z n else if z n 3 = 0 then toN z n + 1 else toN z n
theorem frN_succ (z : Nat → Nat → Int) (n : Nat) : frN z (n + 1) = if z n 2 = 0 then frN z n + 1 else frN z n := rfl
theorem toN_succ (z : Nat → Nat → Int) (n : Nat) : toN z (n + 1) = if z n 2 = 0 then toN z n else if z n 3 = 0 then toN z n + 1 else toN z n := rfl
theorem ft_bd (z : Nat → Nat → Int) : ∀ n, 0 ≤ frN z n ∧ 0 ≤ toN z n ∧ frN z n + toN z n ≤ n
  | 0 => by simp [frN, toN]
  | n + 1 => by
    have := ft_bd z n
    rw [frN_succ, toN_succ]
    split
    · omega
    · split <;> omega
set_option maxRecDepth 100000 in
set_option maxHeartbeats 4000000 in
theorem ends_any (A : Option Addr) (c n : Nat) (z : Nat → Nat → Int) (w : World) (hr : RdZ w 7 A n z) (hn : n ≤ 100) :
    Calls Try.prog 30 #[.slice A n c] w fun e w' => e = .returned (.tuple #[.int .i64 (frN z n), .int .i64 (toN z n)]) ∧ Below w.heap.size w w' := by
  have HR := Lib.hid hr
  obtain ⟨F, hF⟩ : ∃ F, frN z n = F := ⟨_, rfl⟩
  obtain ⟨G, hG⟩ : ∃ F, toN z n = F := ⟨_, rfl⟩
  have HF := Lib.hid hF; have HG := Lib.hid hG
  rw [hF, hG]
  clear hr hF hG
  go_enter Try.func30, Try.ntmps30
  go_wp2_with fail
  go_loopw [4, 5, 10] (fun f t i wr => ∃ k : Nat, k ≤ n ∧ i = .int .i64 k ∧ f = .int .i64 (frN z k) ∧ t = .int .i64 (toN z k) ∧ Below w.heap.size w wr) (fun _ _ i _ => n - (intOf i).toNat)
  case atStart => exact ⟨0, by omega, rfl, rfl, rfl, Below.refl _ _⟩
  case round =>
    obtain ⟨k, hk, rfl, rfl, rfl, hB⟩ := hrel
    have EE := Lib.hid hB
    clear hB
    by_cases h : k < n
    · obtain ⟨b, o, rfl, hbl, hcell⟩ := rdZ_row HR.out (by omega) (by omega)
      have c0 : w.cell? ⟨b, o + k * 7, none⟩ = _ := hcell k 0 h (by omega)
      have c1 : w.cell? ⟨b, o + k * 7 + 1, none⟩ = _ := hcell k 1 h (by omega)
      have c2 : w.cell? ⟨b, o + k * 7 + 2, none⟩ = _ := hcell k 2 h (by omega)
      have c3 : w.cell? ⟨b, o + k * 7 + 3, none⟩ = _ := hcell k 3 h (by omega)
      have c4 : w.cell? ⟨b, o + k * 7 + 4, none⟩ = _ := hcell k 4 h (by omega)
      have c5 : w.cell? ⟨b, o + k * 7 + 5, none⟩ = _ := hcell k 5 h (by omega)
      have c6 : w.cell? ⟨b, o + k * 7 + 6, none⟩ = _ := hcell k 6 h (by omega)
      have d0 := (EE.out.cell (p := ⟨b, o + k * 7, none⟩) hbl).trans c0
      have d1 := (EE.out.cell (p := ⟨b, o + k * 7 + 1, none⟩) hbl).trans c1
      have d2 := (EE.out.cell (p := ⟨b, o + k * 7 + 2, none⟩) hbl).trans c2
      have d3 := (EE.out.cell (p := ⟨b, o + k * 7 + 3, none⟩) hbl).trans c3
      have d4 := (EE.out.cell (p := ⟨b, o + k * 7 + 4, none⟩) hbl).trans c4
      have d5 := (EE.out.cell (p := ⟨b, o + k * 7 + 5, none⟩) hbl).trans c5
      have d6 := (EE.out.cell (p := ⟨b, o + k * 7 + 6, none⟩) hbl).trans c6
      clear c0 c1 c2 c3 c4 c5 c6 hcell
      have bd := ft_bd z k
      have fs := frN_succ z k; have ts := toN_succ z k
      obtain ⟨f, hf⟩ : ∃ f, frN z k = f := ⟨_, rfl⟩
      obtain ⟨t, ht⟩ : ∃ f, toN z k = f := ⟨_, rfl⟩
      rw [hf, ht] at bd
      rw [hf] at fs ⊢
      rw [ht] at ts ⊢
      obtain ⟨z0, hz0⟩ : ∃ q, z k 0 = q := ⟨_, rfl⟩
      rw [hz0] at d0
      obtain ⟨z1, hz1⟩ : ∃ q, z k 1 = q := ⟨_, rfl⟩
      rw [hz1] at d1
      obtain ⟨z2, hz2⟩ : ∃ q, z k 2 = q := ⟨_, rfl⟩
      rw [hz2] at d2
      obtain ⟨z3, hz3⟩ : ∃ q, z k 3 = q := ⟨_, rfl⟩
      rw [hz3] at d3
      obtain ⟨z4, hz4⟩ : ∃ q, z k 4 = q := ⟨_, rfl⟩
      rw [hz4] at d4
      obtain ⟨z5, hz5⟩ : ∃ q, z k 5 = q := ⟨_, rfl⟩
      rw [hz5] at d5
      obtain ⟨z6, hz6⟩ : ∃ q, z k 6 = q := ⟨_, rfl⟩
      rw [hz6] at d6
      rw [hz2] at fs ts
      rw [hz3] at ts
      have w1 : IntKind.i64.wrap (f + 1) = f + 1 := IntWalk.i64_in _ (by omega)
      have w2 : IntKind.i64.wrap (t + 1) = t + 1 := IntWalk.i64_in _ (by omega)
      clear hf ht hz0 hz1 hz2 hz3 hz4 hz5 hz6
      have EF := Lib.hid (EE.out.alloc EE.out.size (.cells #[.int .i64 z0, .int .i64 z1, .int .i64 z2, .int .i64 z3, .int .i64 z4, .int .i64 z5, .int .i64 z6] 34))
      by_cases e2 : z2 = 0
      · subst e2
        rw [if_pos rfl] at fs ts
        have FS := Lib.hid fs; have TS := Lib.hid ts
        clear fs ts
        go_wp2_with fail
        go_roundw
        case rel => exact ⟨k + 1, by omega, by go_num, by rw [FS.out], by rw [TS.out], EF.out⟩
        case measure => (simp [intOf]) <;> omega
      · rw [if_neg e2] at fs ts
        have n2 : (z2 == 0) = false := by simpa using e2
        have FS := Lib.hid fs
        by_cases e3 : z3 = 0
        · subst e3
          rw [if_pos rfl] at ts
          have TS := Lib.hid ts
          clear fs ts e2
          go_wp2_with fail
          go_roundw
          case rel => exact ⟨k + 1, by omega, by go_num, by rw [FS.out], by rw [TS.out], EF.out⟩
          case measure => (simp [intOf]) <;> omega
        · rw [if_neg e3] at ts
          have n3 : (z3 == 0) = false := by simpa using e3
          have TS := Lib.hid ts
          clear fs ts e2 e3
          go_wp2_with fail
          go_roundw
          case rel => exact ⟨k + 1, by omega, by go_num, by rw [FS.out], by rw [TS.out], EF.out⟩
          case measure => (simp [intOf]) <;> omega
    · obtain rfl : n = k := by omega
      rw [HF.out, HG.out]
      go_wp2_with fail
      go_ret2
      exact ⟨rfl, EE.out⟩
/-- a share, in 1000 -/
def shV (x n : Int) : Int := (x * 1000).tdiv n
theorem shV_bd {x n : Int} (h0 : 0 ≤ x) (h1 : x ≤ n) (hn : 0 < n) : 0 ≤ shV x n ∧ shV x n ≤ 1000 := by
  unfold shV
  rw [Int.tdiv_eq_ediv_of_nonneg (by omega)]
  have e1 : 0 ≤ x * 1000 / n := Int.ediv_nonneg (by omega) (by omega)
  have e2 : x * 1000 / n ≤ 1000 := by
    have := Int.ediv_le_ediv (a := x * 1000) (b := n * 1000) hn (by omega)
    rw [Int.mul_ediv_cancel_left _ (by omega)] at this
    exact this
  exact ⟨e1, e2⟩
def kindV (x n : Int) : Int := if n = 0 then 0 else shV x n
set_option maxRecDepth 100000 in
set_option maxHeartbeats 4000000 in
theorem kind_any (A : Option Addr) (c n : Nat) (z : Nat → Nat → Int) (w : World) (hr : RdZ w 7 A n z) (hn : n ≤ 100) :
    Calls Try.prog 11 #[.slice A n c] w fun e w' => e = .returned (.tuple #[.int .i64 (kindV (frN z n) n), .int .i64 (kindV (toN z n) n), .int .i64 (kindV ((n : Int) - frN z n - toN z n) n)]) ∧ Below w.heap.size w w' := by
  have KE := Lib.hid (ends_any A c n z w hr hn)
  have bd := ft_bd z n
  obtain ⟨F, hF⟩ : ∃ F, frN z n = F := ⟨_, rfl⟩
  obtain ⟨G, hG⟩ : ∃ F, toN z n = F := ⟨_, rfl⟩
  rw [hF, hG] at bd KE ⊢
  clear hr hF hG
  by_cases h0 : n = 0
  · subst h0
    have e0 : ∀ x, kindV x ((0 : Nat) : Int) = 0 := fun x => by unfold kindV; simp
    rw [e0, e0, e0]
    go_enter Try.func11, Try.ntmps11
    go_wp2_with fail
    go_ret3
    exact ⟨rfl, Below.refl _ _⟩
  · have e0 : ∀ x, kindV x (n : Int) = shV x n := fun x => by unfold kindV; rw [if_neg (by omega)]
    rw [e0, e0, e0]
    have q1 := shV_bd (x := F) (n := n) (by omega) (by omega) (by omega)
    have q2 := shV_bd (x := G) (n := n) (by omega) (by omega) (by omega)
    have q3 := shV_bd (x := n - F - G) (n := n) (by omega) (by omega) (by omega)
    have r1 : (F * 1000).tdiv n = shV F n := rfl
    have r2 : (G * 1000).tdiv n = shV G n := rfl
    have r3 : (((n : Int) - F - G) * 1000).tdiv n = shV (n - F - G) n := rfl
    obtain ⟨s1, hs1⟩ : ∃ q, shV F n = q := ⟨_, rfl⟩
    obtain ⟨s2, hs2⟩ : ∃ q, shV G n = q := ⟨_, rfl⟩
    obtain ⟨s3, hs3⟩ : ∃ q, shV ((n : Int) - F - G) n = q := ⟨_, rfl⟩
    rw [hs1] at q1 r1 ⊢; rw [hs2] at q2 r2 ⊢; rw [hs3] at q3 r3 ⊢
    have w1 : IntKind.i64.wrap (F * 1000) = F * 1000 := IntWalk.i64_in _ (by omega)
    have w2 : IntKind.i64.wrap (G * 1000) = G * 1000 := IntWalk.i64_in _ (by omega)
    have w3 : IntKind.i64.wrap ((n : Int) - F) = n - F := IntWalk.i64_in _ (by omega)
    have w4 : IntKind.i64.wrap ((n : Int) - F - G) = n - F - G := IntWalk.i64_in _ (by omega)
    have w5 : IntKind.i64.wrap (((n : Int) - F - G) * 1000) = (n - F - G) * 1000 := IntWalk.i64_in _ (by omega)
    have w6 : IntKind.i64.wrap s1 = s1 := IntWalk.i64_in _ (by omega)
    have w7 : IntKind.i64.wrap s2 = s2 := IntWalk.i64_in _ (by omega)
    have w8 : IntKind.i64.wrap s3 = s3 := IntWalk.i64_in _ (by omega)
    have nz : ¬ ((n : Int) = 0) := by omega
    have nb : ((n : Int) == 0) = false := by simp; omega
    clear hs1 hs2 hs3 e0 q1 q2 q3 bd
    go_enter Try.func11, Try.ntmps11
    go_wp2_with fail
    refine KE.out.mono ?_
    rintro e v1 ⟨rfl, hb⟩
    have EE := Lib.hid hb
    clear hb
    go_wp2_with fail
    have sK : ∀ X, (fun _ : World => True) X := fun _ => True.intro
    have E0 := Lib.hid (EE.out.drew)
    refine wp_region_held_drew (S := (fun _ : World => True)) (by kernel_rfl) True.intro (fun hHeld => ?_)
    clear hHeld
    refine wpAnyH_take (i := 0) (v := ?_) rfl (by kernel_rfl) (by kernel_rfl) (by kernel_rfl) (fun _ _ _ h => h) (Or.inl ⟨by rfl, ?_⟩) True.intro ?_
    rotate_left
    · (intro wS hSw; (try dsimp only at hSw); go_simp; try with_reducible rfl)
    simp only [Act.put, List.getElem_toArray, List.getElem_cons_zero, List.getElem_cons_succ, List.setIfInBounds_toArray, List.set_cons_zero, List.set_cons_succ]
    refine wpAnyH_take (i := 1) (v := ?_) rfl (by kernel_rfl) (by kernel_rfl) (by kernel_rfl) (fun _ _ _ h => h) (Or.inl ⟨by rfl, ?_⟩) True.intro ?_
    rotate_left
    · (intro wS hSw; (try dsimp only at hSw); go_simp; try with_reducible rfl)
    simp only [Act.put, List.getElem_toArray, List.getElem_cons_zero, List.getElem_cons_succ, List.setIfInBounds_toArray, List.set_cons_zero, List.set_cons_succ]
    refine wpAnyH_take (i := 2) (v := ?_) rfl (by kernel_rfl) (by kernel_rfl) (by kernel_rfl) (fun _ _ _ h => h) (Or.inl ⟨by rfl, ?_⟩) True.intro ?_
    rotate_left
    · (intro wS hSw; (try dsimp only at hSw); go_simp; try with_reducible rfl)
    simp only [Act.put, List.getElem_toArray, List.getElem_cons_zero, List.getElem_cons_succ, List.setIfInBounds_toArray, List.set_cons_zero, List.set_cons_succ]
    refine wpAnyH_take (i := 3) (v := ?_) rfl (by kernel_rfl) (by kernel_rfl) (by kernel_rfl) (fun _ _ _ h => h) (Or.inl ⟨by rfl, ?_⟩) True.intro ?_
    rotate_left
    · (intro wS hSw; (try dsimp only at hSw); go_simp; try with_reducible rfl)
    simp only [Act.put, List.getElem_toArray, List.getElem_cons_zero, List.getElem_cons_succ, List.setIfInBounds_toArray, List.set_cons_zero, List.set_cons_succ]
    refine wpAnyH_take (i := 4) (v := ?_) rfl (by kernel_rfl) (by kernel_rfl) (by kernel_rfl) (fun _ _ _ h => h) (Or.inl ⟨by rfl, ?_⟩) True.intro ?_
    rotate_left
    · (intro wS hSw; (try dsimp only at hSw); go_simp; try with_reducible rfl)
    simp only [Act.put, List.getElem_toArray, List.getElem_cons_zero, List.getElem_cons_succ, List.setIfInBounds_toArray, List.set_cons_zero, List.set_cons_succ]
    refine wpAnyH_take (i := 5) (v := ?_) rfl (by kernel_rfl) (by kernel_rfl) (by kernel_rfl) (fun _ _ _ h => h) (Or.inl ⟨by rfl, ?_⟩) True.intro ?_
    rotate_left
    · (intro wS hSw; (try dsimp only at hSw); go_simp; try with_reducible rfl)
    simp only [Act.put, List.getElem_toArray, List.getElem_cons_zero, List.getElem_cons_succ, List.setIfInBounds_toArray, List.set_cons_zero, List.set_cons_succ]
    refine wpAnyH_take (i := 6) (v := ?_) rfl (by kernel_rfl) (by kernel_rfl) (by kernel_rfl) (fun _ _ _ h => h) (Or.inl ⟨by rfl, ?_⟩) True.intro ?_
    rotate_left
    · (intro wS hSw; (try dsimp only at hSw); go_simp; try with_reducible rfl)
    simp only [Act.put, List.getElem_toArray, List.getElem_cons_zero, List.getElem_cons_succ, List.setIfInBounds_toArray, List.set_cons_zero, List.set_cons_succ]
    refine wpAnyH_take (i := 7) (v := ?_) rfl (by kernel_rfl) (by kernel_rfl) (by kernel_rfl) (fun _ _ _ h => h) (Or.inl ⟨by rfl, ?_⟩) True.intro ?_
    rotate_left
    · (intro wS hSw; (try dsimp only at hSw); go_simp; try with_reducible rfl)
    simp only [Act.put, List.getElem_toArray, List.getElem_cons_zero, List.getElem_cons_succ, List.setIfInBounds_toArray, List.set_cons_zero, List.set_cons_succ]
    refine wpAnyH_take (i := 8) (v := ?_) rfl (by kernel_rfl) (by kernel_rfl) (by kernel_rfl) (fun _ _ _ h => h) (Or.inl ⟨by rfl, ?_⟩) True.intro ?_
    rotate_left
    · (intro wS hSw; (try dsimp only at hSw); go_simp; try with_reducible rfl)
    simp only [Act.put, List.getElem_toArray, List.getElem_cons_zero, List.getElem_cons_succ, List.setIfInBounds_toArray, List.set_cons_zero, List.set_cons_succ]
    refine wpAnyH_take (i := 9) (v := ?_) rfl (by kernel_rfl) (by kernel_rfl) (by kernel_rfl) (fun _ _ _ h => h) (Or.inl ⟨by rfl, ?_⟩) True.intro ?_
    rotate_left
    · (intro wS hSw; (try dsimp only at hSw); go_simp; try with_reducible rfl)
    simp only [Act.put, List.getElem_toArray, List.getElem_cons_zero, List.getElem_cons_succ, List.setIfInBounds_toArray, List.set_cons_zero, List.set_cons_succ]
    refine wpAnyH_take (i := 10) (v := ?_) rfl (by kernel_rfl) (by kernel_rfl) (by kernel_rfl) (fun _ _ _ h => h) (Or.inl ⟨by rfl, ?_⟩) True.intro ?_
    rotate_left
    · (intro wS hSw; (try dsimp only at hSw); go_simp; try with_reducible rfl)
    simp only [Act.put, List.getElem_toArray, List.getElem_cons_zero, List.getElem_cons_succ, List.setIfInBounds_toArray, List.set_cons_zero, List.set_cons_succ]
    refine wpAnyH_take (i := 11) (v := ?_) rfl (by kernel_rfl) (by kernel_rfl) (by kernel_rfl) (fun _ _ _ h => h) (Or.inl ⟨by rfl, ?_⟩) True.intro ?_
    rotate_left
    · (intro wS hSw; (try dsimp only at hSw); go_simp; try with_reducible rfl)
    simp only [Act.put, List.getElem_toArray, List.getElem_cons_zero, List.getElem_cons_succ, List.setIfInBounds_toArray, List.set_cons_zero, List.set_cons_succ]
    refine wpAnyH_take (i := 12) (v := ?_) rfl (by kernel_rfl) (by kernel_rfl) (by kernel_rfl) (fun _ _ _ h => h) (Or.inl ⟨by rfl, ?_⟩) True.intro ?_
    rotate_left
    · (intro wS hSw; (try dsimp only at hSw); go_simp; try with_reducible rfl)
    simp only [Act.put, List.getElem_toArray, List.getElem_cons_zero, List.getElem_cons_succ, List.setIfInBounds_toArray, List.set_cons_zero, List.set_cons_succ]
    refine wpAnyH_take (i := 13) (v := ?_) rfl (by kernel_rfl) (by kernel_rfl) (by kernel_rfl) (fun _ _ _ h => h) (Or.inl ⟨by rfl, ?_⟩) True.intro ?_
    rotate_left
    · (intro wS hSw; (try dsimp only at hSw); go_simp; try with_reducible rfl)
    simp only [Act.put, List.getElem_toArray, List.getElem_cons_zero, List.getElem_cons_succ, List.setIfInBounds_toArray, List.set_cons_zero, List.set_cons_succ]
    refine wpAnyH_take (i := 14) (v := ?_) rfl (by kernel_rfl) (by kernel_rfl) (by kernel_rfl) (fun _ _ _ h => h) (Or.inl ⟨by rfl, ?_⟩) True.intro ?_
    rotate_left
    · (intro wS hSw; (try dsimp only at hSw); go_simp; try with_reducible rfl)
    simp only [Act.put, List.getElem_toArray, List.getElem_cons_zero, List.getElem_cons_succ, List.setIfInBounds_toArray, List.set_cons_zero, List.set_cons_succ]
    refine wpAnyH_take (i := 15) (v := ?_) rfl (by kernel_rfl) (by kernel_rfl) (by kernel_rfl) (fun _ _ _ h => h) (Or.inl ⟨by rfl, ?_⟩) True.intro ?_
    rotate_left
    · (intro wS hSw; (try dsimp only at hSw); go_simp; try with_reducible rfl)
    simp only [Act.put, List.getElem_toArray, List.getElem_cons_zero, List.getElem_cons_succ, List.setIfInBounds_toArray, List.set_cons_zero, List.set_cons_succ]
    refine wpAnyH_take (i := 16) (v := ?_) rfl (by kernel_rfl) (by kernel_rfl) (by kernel_rfl) (fun _ _ _ h => h) (Or.inl ⟨by rfl, ?_⟩) True.intro ?_
    rotate_left
    · (intro wS hSw; (try dsimp only at hSw); go_simp; try with_reducible rfl)
    simp only [Act.put, List.getElem_toArray, List.getElem_cons_zero, List.getElem_cons_succ, List.setIfInBounds_toArray, List.set_cons_zero, List.set_cons_succ]
    refine wpAnyH_take (i := 17) (v := ?_) rfl (by kernel_rfl) (by kernel_rfl) (by kernel_rfl) (fun _ _ _ h => h) (Or.inl ⟨by rfl, ?_⟩) True.intro ?_
    rotate_left
    · (intro wS hSw; (try dsimp only at hSw); go_simp; try with_reducible rfl)
    simp only [Act.put, List.getElem_toArray, List.getElem_cons_zero, List.getElem_cons_succ, List.setIfInBounds_toArray, List.set_cons_zero, List.set_cons_succ]
    refine wpAnyH_take (i := 18) (v := ?_) rfl (by kernel_rfl) (by kernel_rfl) (by kernel_rfl) (fun _ _ _ h => h) (Or.inl ⟨by rfl, ?_⟩) True.intro ?_
    rotate_left
    · (intro wS hSw; (try dsimp only at hSw); go_simp; try with_reducible rfl)
    simp only [Act.put, List.getElem_toArray, List.getElem_cons_zero, List.getElem_cons_succ, List.setIfInBounds_toArray, List.set_cons_zero, List.set_cons_succ]
    refine wpAnyH_done (by kernel_rfl) ?_ _
    go_wp2_with fail
    go_ret3
    exact ⟨rfl, E0.out⟩
/-- the template that trips are most like -/
def likeV (f t n : Int) : Int := if n = 0 then 0 else if 2 * (f + t) < n then 4 else if 3 * n ≤ 4 * f then 1 else if 3 * n ≤ 4 * t then 3 else 2
set_option maxRecDepth 100000 in
set_option maxHeartbeats 4000000 in
theorem like_any (A : Option Addr) (c n : Nat) (z : Nat → Nat → Int) (w : World) (hr : RdZ w 7 A n z) (hn : n ≤ 100) :
    Calls Try.prog 12 #[.slice A n c] w fun e w' => e = .returned (.int .i64 (likeV (frN z n) (toN z n) n)) ∧ Below w.heap.size w w' := by
  have KE := Lib.hid (ends_any A c n z w hr hn)
  have bd := ft_bd z n
  obtain ⟨F, hF⟩ : ∃ F, frN z n = F := ⟨_, rfl⟩
  obtain ⟨G, hG⟩ : ∃ F, toN z n = F := ⟨_, rfl⟩
  rw [hF, hG] at bd KE ⊢
  obtain ⟨R, hR⟩ : ∃ R, likeV F G n = R := ⟨_, rfl⟩
  rw [hR]
  unfold likeV at hR
  have w1 : IntKind.i64.wrap (F + G) = F + G := IntWalk.i64_in _ (by omega)
  have w2 : IntKind.i64.wrap (2 * (F + G)) = 2 * (F + G) := IntWalk.i64_in _ (by omega)
  have w3 : IntKind.i64.wrap (4 * F) = 4 * F := IntWalk.i64_in _ (by omega)
  have w4 : IntKind.i64.wrap (3 * (n : Int)) = 3 * n := IntWalk.i64_in _ (by omega)
  have w5 : IntKind.i64.wrap (4 * G) = 4 * G := IntWalk.i64_in _ (by omega)
  clear hr hF hG bd
  by_cases h0 : n = 0
  · subst h0
    obtain rfl : R = 0 := by rw [← hR]; rfl
    clear hR
    go_enter Try.func12, Try.ntmps12
    go_wp2_with fail
    refine KE.out.mono ?_
    rintro e v1 ⟨rfl, hb⟩
    have EE := Lib.hid hb
    clear hb
    go_wp2_with fail
    go_ret
    exact ⟨rfl, EE.out⟩
  · have nb : ((n : Int) == 0) = false := by simp; omega
    have nz : ¬ ((n : Int) = 0) := by omega
    rw [if_neg nz] at hR
    by_cases h1 : 2 * (F + G) < n
    · rw [if_pos h1] at hR
      have d1 : decide (2 * (F + G) < (n : Int)) = true := decide_eq_true h1
      obtain rfl : R = 4 := by rw [← hR]
      clear hR
      go_enter Try.func12, Try.ntmps12
      go_wp2_with fail
      refine KE.out.mono ?_
      rintro e v1 ⟨rfl, hb⟩
      have EE := Lib.hid hb
      clear hb
      go_wp2_with fail
      go_ret
      exact ⟨rfl, EE.out⟩
    · rw [if_neg h1] at hR
      have d1 : decide (2 * (F + G) < (n : Int)) = false := decide_eq_false h1
      by_cases h2 : 3 * (n : Int) ≤ 4 * F
      · rw [if_pos h2] at hR
        have d2 : decide (3 * (n : Int) ≤ 4 * F) = true := decide_eq_true h2
        obtain rfl : R = 1 := by rw [← hR]
        clear hR
        go_enter Try.func12, Try.ntmps12
        go_wp2_with fail
        refine KE.out.mono ?_
        rintro e v1 ⟨rfl, hb⟩
        have EE := Lib.hid hb
        clear hb
        go_wp2_with fail
        go_ret
        exact ⟨rfl, EE.out⟩
      · rw [if_neg h2] at hR
        have d2 : decide (3 * (n : Int) ≤ 4 * F) = false := decide_eq_false h2
        by_cases h3 : 3 * (n : Int) ≤ 4 * G
        · rw [if_pos h3] at hR
          have d3 : decide (3 * (n : Int) ≤ 4 * G) = true := decide_eq_true h3
          obtain rfl : R = 3 := by rw [← hR]
          clear hR
          go_enter Try.func12, Try.ntmps12
          go_wp2_with fail
          refine KE.out.mono ?_
          rintro e v1 ⟨rfl, hb⟩
          have EE := Lib.hid hb
          clear hb
          go_wp2_with fail
          go_ret
          exact ⟨rfl, EE.out⟩
        · rw [if_neg h3] at hR
          have d3 : decide (3 * (n : Int) ≤ 4 * G) = false := decide_eq_false h3
          obtain rfl : R = 2 := by rw [← hR]
          clear hR
          go_enter Try.func12, Try.ntmps12
          go_wp2_with fail
          refine KE.out.mono ?_
          rintro e v1 ⟨rfl, hb⟩
          have EE := Lib.hid hb
          clear hb
          go_wp2_with fail
          go_ret
          exact ⟨rfl, EE.out⟩
/-- the trips of the example -/
def zE (i j : Nat) : Int := if j = 3 then (if i = 1 then 2 else 1) else if j = 2 then (if i = 3 then 2 else 0) else 0
set_option maxRecDepth 100000 in
theorem rdZ_E (w : World) : RdZ (w.alloc (.cells #[.int .i64 0, .int .i64 0, .int .i64 0, .int .i64 1, .int .i64 0, .int .i64 0, .int .i64 0, .int .i64 0, .int .i64 0, .int .i64 0, .int .i64 2, .int .i64 0, .int .i64 0, .int .i64 0, .int .i64 0, .int .i64 0, .int .i64 0, .int .i64 1, .int .i64 0, .int .i64 0, .int .i64 0, .int .i64 0, .int .i64 0, .int .i64 2, .int .i64 1, .int .i64 0, .int .i64 0, .int .i64 0] 34)) 7 (some ⟨w.heap.size, 0, none⟩) 4 zE := by
  have B := Blk.new w #[.int .i64 0, .int .i64 0, .int .i64 0, .int .i64 1, .int .i64 0, .int .i64 0, .int .i64 0, .int .i64 0, .int .i64 0, .int .i64 0, .int .i64 2, .int .i64 0, .int .i64 0, .int .i64 0, .int .i64 0, .int .i64 0, .int .i64 0, .int .i64 1, .int .i64 0, .int .i64 0, .int .i64 0, .int .i64 0, .int .i64 0, .int .i64 2, .int .i64 1, .int .i64 0, .int .i64 0, .int .i64 0] 34
  refine rdZ_mk (fun i j hi hj => ?_) (by simp)
  rw [Nat.zero_add]
  rcases i with _ | _ | _ | _ | i
  rotate_right
  · omega
  all_goals
    rcases j with _ | _ | _ | _ | _ | _ | _ | j
    rotate_right
    · omega
    all_goals exact ⟨B.cell _, rfl⟩
set_option maxRecDepth 100000 in
set_option maxHeartbeats 8000000 in
theorem alive58 (w : World) : Calls Try.prog 13 #[] w fun e w' => e = .returned (.bool true) ∧ Below w.heap.size w w' := by
  have HR := Lib.hid (rdZ_E w)
  have BE := Lib.hid ((Below.refl w.heap.size w).alloc (Nat.le_refl _) (.cells #[.int .i64 0, .int .i64 0, .int .i64 0, .int .i64 1, .int .i64 0, .int .i64 0, .int .i64 0, .int .i64 0, .int .i64 0, .int .i64 0, .int .i64 2, .int .i64 0, .int .i64 0, .int .i64 0, .int .i64 0, .int .i64 0, .int .i64 0, .int .i64 1, .int .i64 0, .int .i64 0, .int .i64 0, .int .i64 0, .int .i64 0, .int .i64 2, .int .i64 1, .int .i64 0, .int .i64 0, .int .i64 0] 34))
  have K1 := Lib.hid (fun W hr => (kind_any (some ⟨w.heap.size, 0, none⟩) 4 4 zE W hr (by omega)).mono (fun e w' (h : e = .returned (.tuple #[.int .i64 (kindV (frN zE 4) (4 : Nat)), .int .i64 (kindV (toN zE 4) (4 : Nat)), .int .i64 (kindV (((4 : Nat) : Int) - frN zE 4 - toN zE 4) (4 : Nat))]) ∧ Below W.heap.size W w') => show e = .returned (.tuple #[.int .i64 750, .int .i64 0, .int .i64 250]) ∧ Below W.heap.size W w' from h))
  have K2 := Lib.hid (fun W hr => (like_any (some ⟨w.heap.size, 0, none⟩) 4 4 zE W hr (by omega)).mono (fun e w' (h : e = .returned (.int .i64 (likeV (frN zE 4) (toN zE 4) (4 : Nat))) ∧ Below W.heap.size W w') => show e = .returned (.int .i64 1) ∧ Below W.heap.size W w' from h))
  have K3 := Lib.hid (fun W hr => (obsAt_any (some ⟨w.heap.size, 0, none⟩) 4 4 zE 0 0 W hr (by omega) rfl rfl).mono (fun e w' (h : e = .returned (.int .i64 (cntS zE 0 0 4)) ∧ Below W.heap.size W w') => show e = .returned (.int .i64 3) ∧ Below W.heap.size W w' from h))
  have K4 := Lib.hid (fun W hr => (obsAt_any (some ⟨w.heap.size, 0, none⟩) 4 4 zE 0 1 W hr (by omega) rfl rfl).mono (fun e w' (h : e = .returned (.int .i64 (cntS zE 0 1 4)) ∧ Below W.heap.size W w') => show e = .returned (.int .i64 3) ∧ Below W.heap.size W w' from h))
  go_enter Try.func13, Try.ntmps13
  go_wp2_with fail
  obtain ⟨V0, hV0⟩ : ∃ V, w.alloc (.cells #[.int .i64 0, .int .i64 0, .int .i64 0, .int .i64 1, .int .i64 0, .int .i64 0, .int .i64 0, .int .i64 0, .int .i64 0, .int .i64 0, .int .i64 2, .int .i64 0, .int .i64 0, .int .i64 0, .int .i64 0, .int .i64 0, .int .i64 0, .int .i64 1, .int .i64 0, .int .i64 0, .int .i64 0, .int .i64 0, .int .i64 0, .int .i64 2, .int .i64 1, .int .i64 0, .int .i64 0, .int .i64 0] 34) = V := ⟨_, rfl⟩
  rw [hV0] at HR BE ⊢
  clear hV0
  refine (K1.out _ HR.out).mono ?_
  rintro e v1 ⟨rfl, hb⟩
  have HR1 := Lib.hid (RdZ.kept HR.out hb); have E1 := Lib.hid (BE.out.trans (hb.mono BE.out.size))
  clear hb
  go_wp2_with fail
  refine (K2.out _ HR1.out).mono ?_
  rintro e v2 ⟨rfl, hb⟩
  have HR2 := Lib.hid (RdZ.kept HR1.out hb); have E2 := Lib.hid (E1.out.trans (hb.mono E1.out.size))
  clear hb
  go_wp2_with fail
  refine (K3.out _ HR2.out).mono ?_
  rintro e v3 ⟨rfl, hb⟩
  have HR3 := Lib.hid (RdZ.kept HR2.out hb); have E3 := Lib.hid (E2.out.trans (hb.mono E2.out.size))
  clear hb
  go_wp2_with fail
  refine (K4.out _ HR3.out).mono ?_
  rintro e v4 ⟨rfl, hb⟩
  have E4 := Lib.hid (E3.out.trans (hb.mono E3.out.size))
  clear hb
  go_wp2_with fail
  go_ret
  exact ⟨rfl, E4.out⟩
end Go.Proofs.Ytodfjghgcphhhab
