/- Joined kit texts: WantD2 WantF2 WantG2. -/
import Derived.Test.YtffcmfpadaebdaaRows
import Derived.Test.YtffcmfpadaebdaaKitM
import Derived.Test.YtffcmfpadaebdaaBitM
import Derived.Test.YtffcmfpadaebdaaCarM
import Derived.WalkKit
import Derived.OwnWalk
import Derived.Laws.MakeOwn
import Derived.Laws.OwnMore
import Derived.Deep.LoopGhost
import Derived.IntWalk
import Derived.Lib.Hide
import Derived.WalkSpells
import Derived.WalkLawsBesides
import Derived.Laws.CopyOwn
import Derived.Deep.QuietTactic
import Derived.Deep.RegionHeld3
import Derived.BigQuiet
import Derived.BigRegion
import Derived.Laws.AppendOwnNone
namespace Go.Proofs.Ytffcmfpadaebdaa
open Go.RowKit
set_option linter.unusedSimpArgs false
set_option linter.unusedVariables false
theorem take_zatW {zs : List Int} {k : Nat} (h : k < zs.length) : zs.take (k + 1) = zs.take k ++ [zat zs k] := by
  rw [List.take_succ_eq_append_getElem h]; unfold zat; rw [List.getD_eq_getElem?_getD, List.getElem?_eq_getElem h]; rfl
/-- the document's row of what lies on, the nearest first -/
def bx (l : List Int) (d : Int) (N i : Nat) : Int := if d < 0 then zat l (N - 1 - i) else zat l i
def bc (f d z : Int) : Bool := (decide (0 < d) && decide (f < z)) || (decide (d < 0) && decide (z < f))
def rbA (l : List Int) (f d : Int) (N : Nat) : Nat → List Int
  | 0 => []
  | k + 1 => if bc f d (bx l d N k) then rbA l f d N k ++ [bx l d N k] else rbA l f d N k
theorem rbA_len (l : List Int) (f d : Int) (N : Nat) : ∀ k, (rbA l f d N k).length ≤ k
  | 0 => Nat.le_refl _
  | k + 1 => by
    have := rbA_len l f d N k
    unfold rbA
    split
    · rw [List.length_append, List.length_singleton]; omega
    · omega
theorem rbA_mem (l : List Int) (f d : Int) (N : Nat) (z : Int) : ∀ k, z ∈ rbA l f d N k ↔ ∃ i, i < k ∧ z = bx l d N i ∧ bc f d z = true
  | 0 => by simp [rbA]
  | k + 1 => by
    have ih := rbA_mem l f d N z k
    unfold rbA
    split
    · rename_i h
      rw [List.mem_append, ih, List.mem_singleton]
      constructor
      · rintro (⟨i, h1, h2, h3⟩ | h3)
        · exact ⟨i, by omega, h2, h3⟩
        · exact ⟨k, by omega, h3, by rw [h3]; exact h⟩
      · rintro ⟨i, h1, h2, h3⟩
        by_cases e : i = k
        · subst e; exact .inr h2
        · exact .inl ⟨i, by omega, h2, h3⟩
    · rename_i h
      rw [ih]
      constructor
      · rintro ⟨i, h1, h2, h3⟩; exact ⟨i, by omega, h2, h3⟩
      · rintro ⟨i, h1, h2, h3⟩
        by_cases e : i = k
        · subst e; rw [h2] at h3; exact absurd h3 h
        · exact ⟨i, by omega, h2, h3⟩
theorem rbA_pair (l : List Int) (f d : Int) (N : Nat) (R : Int → Int → Prop) (hR : ∀ i j, i < j → j < N → R (bx l d N i) (bx l d N j)) : ∀ k, k ≤ N → (rbA l f d N k).Pairwise R
  | 0, _ => List.Pairwise.nil
  | k + 1, hk => by
    have ih := rbA_pair l f d N R hR k (by omega)
    unfold rbA
    split
    · refine List.pairwise_append.2 ⟨ih, List.pairwise_singleton _ _, fun a ha b hb => ?_⟩
      obtain ⟨i, h1, h2, _⟩ := (rbA_mem l f d N a k).1 ha
      rw [List.mem_singleton.1 hb, h2]
      exact hR i k h1 (by omega)
    · exact ih
/-- the whole row -/
def rbL (F : Nat → Bool) (f d : Int) : List Int := rbA (itL F 128) f d (itL F 128).length (itL F 128).length
theorem rbL_len (F : Nat → Bool) (f d : Int) : (rbL F f d).length ≤ 128 := Nat.le_trans (rbA_len _ _ _ _ _) (itL_len F 128)
theorem bc_by (F : Nat → Bool) (f d : Int) (j : Nat) : (F j = true ∧ bc f d j = true) ↔ byF F f d j = true := by
  unfold bc byF
  rcases (show 0 < d ∨ d < 0 ∨ d = 0 by omega) with h | h | h
  · rw [if_pos h]; simp [h]; intro _; omega
  · rw [if_neg (by omega), if_pos h]; simp [h]; intro _; omega
  · subst h; simp
theorem rbL_mem (F : Nat → Bool) (f d z : Int) : z ∈ rbL F f d ↔ ∃ m : Nat, m < 128 ∧ byF F f d m = true ∧ z = m := by
  unfold rbL
  rw [rbA_mem]
  constructor
  · rintro ⟨i, h1, h2, h3⟩
    have hm : ∃ i', i' < (itL F 128).length ∧ z = zat (itL F 128) i' := by
      unfold bx at h2
      split at h2
      · exact ⟨_, by omega, h2⟩
      · exact ⟨_, h1, h2⟩
    obtain ⟨i', h4, h5⟩ := hm
    obtain ⟨m, hm, hF, e⟩ := itL_at F i' h4
    exact ⟨m, hm, (bc_by F f d m).1 ⟨hF, by rw [← e, ← h5]; exact h3⟩, by rw [h5, e]⟩
  · rintro ⟨m, hm, hb, rfl⟩
    obtain ⟨hF, hc⟩ := (bc_by F f d m).2 hb
    obtain ⟨i, hi, e⟩ := itL_has F m hm hF
    by_cases h : d < 0
    · refine ⟨(itL F 128).length - 1 - i, by omega, ?_, hc⟩
      unfold bx
      rw [if_pos h, show (itL F 128).length - 1 - ((itL F 128).length - 1 - i) = i by omega, e]
    · exact ⟨i, hi, by unfold bx; rw [if_neg h, e], hc⟩
theorem rbL_pair (F : Nat → Bool) (f d : Int) : (rbL F f d).Pairwise fun a b => if d < 0 then b < a else a < b := by
  refine rbA_pair _ _ _ _ _ (fun i j hij hj => ?_) _ (Nat.le_refl _)
  unfold bx
  by_cases h : d < 0
  · simp only [h, if_true]; exact itL_rise F 128 _ _ (by omega) (by omega)
  · simp only [h, if_false]; exact itL_rise F 128 _ _ hij hj
theorem rbL_rise (F : Nat → Bool) (f d : Int) (i j : Nat) (hij : i < j) (hj : j < (rbL F f d).length) : if d < 0 then zat (rbL F f d) j < zat (rbL F f d) i else zat (rbL F f d) i < zat (rbL F f d) j := by
  have h := List.pairwise_iff_getElem.1 (rbL_pair F f d) i j (by omega) hj hij
  have hi := zat_get (show i < (rbL F f d).length by omega)
  have hj' := zat_get hj
  rw [List.getElem?_eq_getElem (by omega)] at hi
  rw [List.getElem?_eq_getElem hj] at hj'
  rw [Option.some.inj hi, Option.some.inj hj'] at h
  exact h
theorem ofF_mem (zs : List Int) (j : Nat) : ∀ k, k ≤ zs.length → (ofF zs k j = true ↔ ∃ i, i < k ∧ zat zs i = j)
  | 0, _ => by simp [ofF]
  | k + 1, hk => by
    have ih := ofF_mem zs j k (by omega)
    unfold ofF withF
    rw [Bool.or_eq_true, ih, beq_iff_eq]
    constructor
    · rintro (⟨i, h1, h2⟩ | h2)
      · exact ⟨i, by omega, h2⟩
      · exact ⟨k, by omega, h2.symm⟩
    · rintro ⟨i, h1, h2⟩
      by_cases e : i = k
      · subst e; exact .inr h2.symm
      · exact .inl ⟨i, by omega, h2⟩
theorem rbL_set (F : Nat → Bool) (f d : Int) : setV (ofF (rbL F f d) (rbL F f d).length) = setV (byF F f d) := setV_congr fun j hj => by
  rw [Bool.eq_iff_iff, ofF_mem _ _ _ (Nat.le_refl _)]
  constructor
  · rintro ⟨i, h1, h2⟩
    obtain ⟨m, _, hb, e⟩ := (rbL_mem F f d _).1 (zat_mem h1)
    obtain rfl : j = m := by omega
    exact hb
  · intro h
    exact mem_zat ((rbL_mem F f d j).2 ⟨j, hj, h, rfl⟩)
theorem rbL_wf (F : Nat → Bool) (f d : Int) : ∀ i, i < (rbL F f d).length → (Lit.int .i64 (zat (rbL F f d) i)).wf = true := fun i hi => by
  obtain ⟨m, hm, _, e⟩ := (rbL_mem F f d _).1 (zat_mem hi)
  exact WalkArith.wf_i64 (by omega)
/-- the row so far, in the loop -/
def RRb (l : List Int) (f d : Int) (N k : Nat) (v : Value) (X0 wr : World) : Prop := wr.ownsRow X0.heap.size 3 1 v (rbA l f d N k).length ((rbA l f d N k).map (Value.int .i64)) ∧ Below X0.heap.size X0 wr
set_option maxRecDepth 100000 in
set_option maxHeartbeats 2000000 in
theorem rbeyond_any (F : Nat → Bool) (f d : Int) (w : World) :
    Calls Try.prog 54 #[setV F, .int .i64 f, .int .i64 d] w fun e w' => ∃ A c, e = .returned (.slice A (rbL F f d).length c) ∧ RdI w' .i64 A (rbL F f d) ∧ Below w.heap.size w w' := by
  obtain ⟨i0, hi, hz0, hz1, hz2⟩ := info_parts mkInfo
  have DI := fun w => items_any F w
  have IL := itL_len F 128
  have WF := rbL_wf F f d
  unfold rbL at WF ⊢
  unfold setV at DI ⊢
  obtain ⟨x, hX⟩ : ∃ x, wordX F = x := ⟨_, rfl⟩
  obtain ⟨y, hY⟩ : ∃ y, wordY F = y := ⟨_, rfl⟩
  obtain ⟨l, hl⟩ : ∃ l, itL F 128 = l := ⟨_, rfl⟩
  obtain ⟨N, hN⟩ : ∃ N, l.length = N := ⟨_, rfl⟩
  simp only [hX, hY, hl, hN] at DI IL WF ⊢
  have DIh := Lib.hid DI
  have WFh := Lib.hid WF
  have HN := Lib.hid hN
  have LEN := Lib.hid (rbA_len l f d N)
  clear hX hY hl DI hN WF
  go_enter Try.func54, Try.ntmps54
  go_wp2_with fail
  refine (DIh.out _).mono ?_
  rintro e X0 ⟨LA, LC, rfl, hR, hb⟩
  have RL := Lib.hid hR
  have E1 := Lib.hid ((one_blk hb).2.2)
  have hNI : (N : Int) ≤ 128 := by omega
  clear hR hb
  go_wp2_with fail
  go_loopg [8, 9, 10] N (fun g v i xx wr => ∃ k : Nat, k ≤ N ∧ g = N - k ∧ i = .int .i64 k ∧ RRb l f d N k v X0 wr)
  case atStart => exact ⟨0, by omega, rfl, rfl, World.ownsRow_nil _ _ _ _, Below.refl _ _⟩
  case round =>
    obtain ⟨k, hk, rfl, rfl, hown, hb⟩ := hrel
    obtain ⟨vA, vc, hv⟩ := mkSlice hown
    subst hv
    have hm := LEN.out k
    by_cases h : k < N
    · obtain ⟨bb, off, rfl, hlt, hc⟩ := rdI_row (RL.out.kept hb) (by have := HN.out; omega)
      have ck := hc k (by have := HN.out; omega)
      have cr := hc (N - 1 - k) (by have := HN.out; omega)
      have hkI : (k : Int) < N := by omega
      have e1 : ((N : Int) - 1 - (k : Int)).toNat = N - 1 - k := by omega
      have g1 : (0 : Int) ≤ (N : Int) - 1 - k := by omega
      have g2 : (N : Int) - 1 - k < N := by omega
      obtain ⟨z, hz⟩ : ∃ z, bx l d N k = z := ⟨_, rfl⟩
      have RA : Hid (rbA l f d N (k + 1) = if bc f d z then rbA l f d N k ++ [z] else rbA l f d N k) := Lib.hid (by rw [← hz]; rfl)
      have ZC : (d < 0 ∧ zat l (N - 1 - k) = z) ∨ (0 ≤ d ∧ zat l k = z) := by
        unfold bx at hz
        by_cases hd : d < 0
        · rw [if_pos hd] at hz; exact .inl ⟨hd, hz⟩
        · rw [if_neg hd] at hz; exact .inr ⟨by omega, hz⟩
      obtain ⟨p, hp⟩ : ∃ p, zat l k = p := ⟨_, rfl⟩
      obtain ⟨q, hq⟩ : ∃ q, zat l (N - 1 - k) = q := ⟨_, rfl⟩
      rw [hp] at ck ZC
      rw [hq] at cr ZC
      clear hc hz hp hq
      have BC : (bc f d z = true ∧ 0 < d ∧ f < z) ∨ (bc f d z = true ∧ d < 0 ∧ z < f) ∨ (bc f d z = false ∧ 0 < d ∧ z ≤ f) ∨ (bc f d z = false ∧ d < 0 ∧ f ≤ z) ∨ (bc f d z = false ∧ d = 0) := by
        unfold bc
        rcases (show 0 < d ∨ d < 0 ∨ d = 0 by omega) with h | h | h
        · by_cases h2 : f < z
          · exact .inl ⟨by simp [h, h2], h, h2⟩
          · exact .inr (.inr (.inl ⟨by simp [h]; omega, h, by omega⟩))
        · by_cases h2 : z < f
          · exact .inr (.inl ⟨by simp [h, h2], h, h2⟩)
          · exact .inr (.inr (.inr (.inl ⟨by simp [h]; omega, h, by omega⟩)))
        · exact .inr (.inr (.inr (.inr ⟨by subst h; simp, h⟩)))
      have YES : bc f d z = true → Hid (∀ v' w1, w1.ownsRow X0.heap.size 3 1 v' ((rbA l f d N k).length + 1) ((rbA l f d N k).map (Value.int .i64) ++ [.int .i64 z]) → Below X0.heap.size X0 w1 → RRb l f d N (k + 1) v' X0 w1) := fun hbc => Lib.hid fun v' w1 h1 h2 => by
        unfold RRb; rw [RA.out, if_pos hbc]
        simp only [List.length_append, List.length_singleton, List.map_append, List.map_cons, List.map_nil]
        exact ⟨h1, h2⟩
      have NOO : bc f d z = false → Hid (RRb l f d N (k + 1) (.slice vA (rbA l f d N k).length vc) X0 wr) := fun hbc => Lib.hid (by unfold RRb; rw [RA.out, if_neg (by rw [hbc]; decide)]; exact ⟨hown, hb⟩)
      clear RA
      obtain ⟨M, hme⟩ : ∃ m, (rbA l f d N k).length = m := ⟨_, rfl⟩
      rw [hme] at hown hm YES NOO ⊢
      clear hme
      have BC2 := Lib.hid BC
      clear BC
      rcases ZC with ⟨hd, rfl⟩ | ⟨hd, rfl⟩
      all_goals (
        rcases BC2.out with ⟨hbc, h1, h2⟩ | ⟨hbc, h1, h2⟩ | ⟨hbc, h1, h2⟩ | ⟨hbc, h1, h2⟩ | ⟨hbc, h1⟩
        all_goals first
          | (exfalso; omega)
          | (have E := NOO hbc
             clear hbc YES NOO BC2 hown
             go_wp2_with fail
             go_roundg (N - (k + 1))
             case measure => omega
             case rel => exact ⟨k + 1, by omega, rfl, by go_num, E.out⟩)
          | (have E := YES hbc
             clear hbc YES NOO BC2
             go_wp2_with (at_builtin; refine wpList_append_own _ rfl _ _ 67 rfl X0.heap.size 3 i0 (.int .i64 0) 1 8 Try.underlying67 hi hz0 hz1 hz2 rfl (by decide) _ _ _ rfl (hown.alloc _) ⟨_, 0, none⟩ 1 1 [.int .i64 _] rfl rfl one_newR (by intro u hu; simp at hu; subst hu; rfl) (by unfold maxLen; omega) (by omega) (by have := hb.size; simp; omega) ?_; intro v' w1 hown' hgrow _)
             have hb1 : Below X0.heap.size X0 w1 := by
               refine (hb.alloc hb.size _).grown hgrow (by have := hb.size; simp; omega) (fun g hg => ?_)
               first | exact ownR_ge hown hg | exact ownR_ge hown hg.symm
             have HR := E.out v' w1 hown' hb1
             clear hown' hgrow E
             go_wp2_with fail
             go_roundg (N - (k + 1))
             case measure => omega
             case rel => exact ⟨k + 1, by omega, rfl, by go_num, HR⟩))
    · obtain rfl : k = N := by omega
      have hkk : ¬ ((k : Int) < k) := by omega
      obtain ⟨B, cc, hv, hR⟩ := ownR_rd hown WFh.out
      cases hv
      have BW := E1.out.trans (hb.mono E1.out.size)
      go_wp2_with fail
      go_ret
      exact ⟨_, ⟨_, rfl⟩, hR, BW⟩
end Go.Proofs.Ytffcmfpadaebdaa


namespace Go.Proofs.Ytffcmfpadaebdaa
open Go.RowKit
set_option linter.unusedSimpArgs false
set_option linter.unusedVariables false
theorem below_growW {W W' : World} (h : Below W.heap.size W W') : W.grownBy W' none := ⟨h.os, h.tape, h.output, h.size, fun k hk _ => h.block k hk⟩
set_option maxRecDepth 100000 in
set_option maxHeartbeats 1000000 in
theorem items_own (F : Nat → Bool) (w : World) :
    Calls Try.prog 52 #[setV F] w fun e w' => ∃ v B, e = .returned v ∧ w'.ownsRow B 3 1 v (itL F 128).length ((itL F 128).map (Value.int .i64)) ∧ w.heap.size ≤ B ∧ B ≤ w'.heap.size ∧ Below w.heap.size w w' := by
  obtain ⟨i0, hi, hz0, hz1, hz2⟩ := info_parts mkInfo
  have RS := row_set F
  have LEN := Lib.hid (itL_len F)
  have HZ := zc_run
  have HC := zc_cells
  unfold setV at RS ⊢
  obtain ⟨x, hX⟩ : ∃ x, wordX F = x := ⟨_, rfl⟩
  obtain ⟨y, hY⟩ : ∃ y, wordY F = y := ⟨_, rfl⟩
  rw [hX, hY] at RS ⊢
  have RSh := Lib.hid RS
  clear hX hY RS
  go_enter Try.func52, Try.ntmps52
  go_wp2_with (first
    | (go_at_call 56; refine (RSh.out _).mono ?_; rintro e w2 ⟨rfl, hb2⟩; have B2 := Lib.hid (one_blk hb2).2.2; clear hb2)
    | (refine wpList_store_row rfl 78 (.tmp 3) (.tmp 7) rfl w2.heap.size (rowC F 128) rfl rfl 78 zc (heap_alloc_last _ _) (by rw [rowC_size]; exact info59) (by rw [rowC_size, zsize]) (rowC_all _ _) ?_))
  have HB : Blk ((w2.alloc (.cells zc 78)).setRow w2.heap.size (rowC F 128)) w2.heap.size 78 (rowC F 128) := setRow_heap _ _ _ _ _ _ (heap_alloc_last _ _)
  have BE : Below w.heap.size w ((w2.alloc (.cells zc 78)).setRow w2.heap.size (rowC F 128)) := below_setRow (B2.out.alloc B2.out.size _) B2.out.size _
  obtain ⟨X0, hX0⟩ : ∃ X, (w2.alloc (.cells zc 78)).setRow w2.heap.size (rowC F 128) = X := ⟨_, rfl⟩
  rw [hX0] at HB BE ⊢
  obtain ⟨g, hg⟩ : ∃ g, w2.heap.size = g := ⟨_, rfl⟩
  rw [hg] at HB ⊢
  have HBh := Lib.hid HB
  have BEh := Lib.hid BE
  clear hX0 hg HB BE B2 HZ HC
  go_loopg [4, 5] 128 (fun gh v i wr => ∃ k : Nat, k ≤ 128 ∧ gh = 128 - k ∧ i = .int .i64 k ∧ RIt F k v X0 wr)
  case atStart => exact ⟨0, by omega, rfl, rfl, World.ownsRow_nil _ _ _ _, Below.refl _ _⟩
  case round =>
    obtain ⟨k, hk, rfl, rfl, hown, hb⟩ := hrel
    obtain ⟨vA, vc, hv⟩ := mkSlice hown
    subst hv
    have hm := LEN.out k
    by_cases h : k < 128
    · have S0 := (HBh.out.next hb).cell k
      rw [rowC_get _ _ _ h] at S0
      have hkI : (k : Int) < 128 := by omega
      cases hF : F k
      · have E : Hid (RIt F (k + 1) (.slice vA (itL F k).length vc) X0 wr) := Lib.hid (by unfold RIt; rw [itL_no hF]; exact ⟨hown, hb⟩)
        simp only [hF, Bool.and_false] at S0
        clear hF hown
        go_wp2_with fail
        go_roundg (128 - (k + 1))
        case measure => omega
        case rel => exact ⟨k + 1, by omega, rfl, by go_num, E.out⟩
      · have E : Hid (∀ v' w1, w1.ownsRow X0.heap.size 3 1 v' ((itL F k).length + 1) ((itL F k).map (Value.int .i64) ++ [.int .i64 (k : Int)]) → Below X0.heap.size X0 w1 → RIt F (k + 1) v' X0 w1) := Lib.hid fun v' w1 h1 h2 => by
          unfold RIt; rw [itL_yes hF]
          simp only [List.length_append, List.length_singleton, List.map_append, List.map_cons, List.map_nil]
          exact ⟨h1, h2⟩
        simp only [hF, h, decide_true, Bool.and_true] at S0
        obtain ⟨m, hme⟩ : ∃ m, (itL F k).length = m := ⟨_, rfl⟩
        rw [hme] at hown hm E ⊢
        clear hF hme
        go_wp2_with (at_builtin; refine wpList_append_own _ rfl _ _ 67 rfl X0.heap.size 3 i0 (.int .i64 0) 1 8 Try.underlying67 hi hz0 hz1 hz2 rfl (by decide) _ _ _ rfl (hown.alloc _) ⟨_, 0, none⟩ 1 1 [.int .i64 (k : Int)] rfl rfl one_newR (by intro u hu; simp at hu; subst hu; rfl) (by unfold maxLen; omega) (by omega) (by have := hb.size; simp; omega) ?_; intro v' w1 hown' hgrow _)
        have hb1 : Below X0.heap.size X0 w1 := by
          refine (hb.alloc hb.size _).grown hgrow (by have := hb.size; simp; omega) (fun g hg => ?_)
          first | exact ownR_ge hown hg | exact ownR_ge hown hg.symm
        have HR := E.out v' w1 hown' hb1
        clear hown' hgrow E
        go_wp2_with fail
        go_roundg (128 - (k + 1))
        case measure => omega
        case rel => exact ⟨k + 1, by omega, rfl, by go_num, HR⟩
    · obtain rfl : k = 128 := by omega
      have BW := BEh.out.trans (hb.mono BEh.out.size)
      have OW := Lib.hid hown
      have BS := Lib.hid BEh.out.size
      have BT := Lib.hid hb.size
      clear hown
      go_wp2_with fail
      go_ret
      exact ⟨_, X0.heap.size, rfl, OW.out, BS.out, BT.out, BW⟩

/-- where the first k riders want to, in their order -/
def tosL (z : Nat → Nat → Int) : Nat → List Int
  | 0 => []
  | k + 1 => tosL z k ++ [z k 1]
theorem tosL_len (z : Nat → Nat → Int) : ∀ k, (tosL z k).length = k
  | 0 => rfl
  | k + 1 => by show (tosL z k ++ [z k 1]).length = k + 1; rw [List.length_append, tosL_len z k]; rfl
theorem tosL_get (z : Nat → Nat → Int) : ∀ n i, i < n → (tosL z n)[i]? = some (z i 1)
  | 0, i, h => by omega
  | n + 1, i, h => by
    show (tosL z n ++ [z n 1])[i]? = _
    by_cases e : i = n
    · subst e
      rw [List.getElem?_append_right (by rw [tosL_len]; omega), tosL_len, Nat.sub_self]; rfl
    · rw [List.getElem?_append_left (by rw [tosL_len]; omega)]
      exact tosL_get z n i (by omega)
theorem tosL_zat (z : Nat → Nat → Int) {n i : Nat} (h : i < n) : zat (tosL z n) i = z i 1 := by
  have h1 := zat_get (show i < (tosL z n).length by rw [tosL_len]; exact h)
  rw [tosL_get z n i h] at h1
  exact (Option.some.inj h1).symm
theorem tosL_rd (z : Nat → Nat → Int) (n : Nat) : ∀ k, k ≤ n → ofF (tosL z n) k = rdF z k
  | 0, _ => rfl
  | k + 1, h => by
    show withF (ofF (tosL z n) k) (zat (tosL z n) k) = withF (rdF z k) (z k 1)
    rw [tosL_rd z n k (by omega), tosL_zat z (by omega)]
def RTo (z : Nat → Nat → Int) (k : Nat) (v : Value) (X0 wr : World) : Prop := wr.ownsRow X0.heap.size 3 1 v k ((tosL z k).map (Value.int .i64)) ∧ Below X0.heap.size X0 wr
set_option maxRecDepth 100000 in
set_option maxHeartbeats 2000000 in
theorem rrides_any (p d md l : Int) (wa : Bool) (A : Option Addr) (n c : Nat) (z : Nat → Nat → Int) (w : World) (hr : RdZ w 2 A n z) (hl : n ≤ 1000) :
    Calls Try.prog 35 #[carV p d md l wa A n c] w fun e w' => ∃ v B, e = .returned v ∧ w'.ownsRow B 3 1 v (itL (rdF z n) 128).length ((itL (rdF z n) 128).map (Value.int .i64)) ∧ w.heap.size ≤ B ∧ B ≤ w'.heap.size ∧ Below w.heap.size w w' := by
  obtain ⟨i0, hi, hz0, hz1, hz2⟩ := info_parts mkInfo
  have HR := Lib.hid hr
  have hnI : (n : Int) ≤ 1000 := by omega
  have RO := fun A c w hr => rof_any A c (tosL z n) w hr (by rw [tosL_len]; omega)
  rw [tosL_len, tosL_rd z n n (Nat.le_refl _)] at RO
  have IO := fun w => items_own (rdF z n) w
  unfold setV at RO IO
  obtain ⟨x, hX⟩ : ∃ x, wordX (rdF z n) = x := ⟨_, rfl⟩
  obtain ⟨y, hY⟩ : ∃ y, wordY (rdF z n) = y := ⟨_, rfl⟩
  simp only [hX, hY] at RO IO
  replace RO := Lib.hid RO
  replace IO := Lib.hid IO
  have WFh : Hid (∀ i, i < (tosL z n).length → (Lit.int .i64 (zat (tosL z n) i)).wf = true) := Lib.hid fun i hi => by
    have hin : i < n := by rwa [tosL_len] at hi
    obtain ⟨a, _, _, hc⟩ := hr i hin
    rw [tosL_zat z hin]
    exact (hc 1 (by omega)).2
  clear hX hY hr
  unfold carV
  go_enter Try.func35, Try.ntmps35
  go_wp2_with fail
  have A0 := Blk.new w #[(.int .i64 p : Value), .int .i64 d, .int .i64 md, .int .i64 l, .bool wa, .slice A n c] 29
  have BE := (Below.refl w.heap.size w).alloc (Nat.le_refl _) (.cells #[(.int .i64 p : Value), .int .i64 d, .int .i64 md, .int .i64 l, .bool wa, .slice A n c] 29)
  obtain ⟨X0, hX0⟩ : ∃ X, w.alloc (.cells #[(.int .i64 p : Value), .int .i64 d, .int .i64 md, .int .i64 l, .bool wa, .slice A n c] 29) = X := ⟨_, rfl⟩
  rw [hX0] at A0 BE ⊢
  have CB := Lib.hid A0
  have BEh := Lib.hid BE
  clear hX0 A0 BE
  go_loopg [3, 4] n (fun g v i wr => ∃ k : Nat, k ≤ n ∧ g = n - k ∧ i = .int .i64 k ∧ RTo z k v X0 wr)
  case atStart => exact ⟨0, by omega, rfl, rfl, World.ownsRow_nil _ _ _ _, Below.refl _ _⟩
  case round =>
    obtain ⟨k, hk, rfl, rfl, hown, hb⟩ := hrel
    obtain ⟨vA, vc, hv⟩ := mkSlice hown
    subst hv
    have kc : wr.cell? ⟨w.heap.size, 5, none⟩ = some (.slice A n c) := (CB.out.next hb).cell 5
    by_cases h : k < n
    · have E : Hid (∀ v' w1, w1.ownsRow X0.heap.size 3 1 v' (k + 1) ((tosL z k).map (Value.int .i64) ++ [.int .i64 (z k 1)]) → Below X0.heap.size X0 w1 → RTo z (k + 1) v' X0 w1) := Lib.hid fun v' w1 h1 h2 => by
        unfold RTo
        rw [show tosL z (k + 1) = tosL z k ++ [z k 1] from rfl]
        simp only [List.map_append, List.map_cons, List.map_nil]
        exact ⟨h1, h2⟩
      obtain ⟨b, off, rfl, hlt, hc⟩ := rdZ_row (HR.out.kept (BEh.out.trans (hb.mono BEh.out.size))) (by omega) (by omega)
      have ck1 := hc k 1 h (by omega)
      obtain ⟨zz, hz⟩ : ∃ i, z k 1 = i := ⟨_, rfl⟩
      rw [hz] at ck1 E
      have hki : (k : Int) < n := by omega
      clear hc hz
      go_wp2_with (at_builtin; refine wpList_append_own _ rfl _ _ 67 rfl X0.heap.size 3 i0 (.int .i64 0) 1 8 Try.underlying67 hi hz0 hz1 hz2 rfl (by decide) _ _ _ rfl (hown.alloc _) ⟨_, 0, none⟩ 1 1 [.int .i64 zz] rfl rfl one_newR (by intro u hu; simp at hu; subst hu; rfl) (by unfold maxLen; omega) (by omega) (by have := hb.size; simp; omega) ?_; intro v' w1 hown' hgrow _)
      have hb1 : Below X0.heap.size X0 w1 := by
        refine (hb.alloc hb.size _).grown hgrow (by have := hb.size; simp; omega) (fun g hg => ?_)
        first | exact ownR_ge hown hg | exact ownR_ge hown hg.symm
      have HRR := E.out v' w1 hown' hb1
      clear hown' hgrow E
      go_wp2_with fail
      go_roundg (n - (k + 1))
      case measure => omega
      case rel => exact ⟨k + 1, by omega, rfl, by go_num, HRR⟩
    · obtain rfl : k = n := by omega
      have hkk : ¬ ((k : Int) < k) := by omega
      obtain ⟨B, cc, hv, hR⟩ := ownR_rd (ys := tosL z k) (by rw [tosL_len]; exact hown) WFh.out
      rw [tosL_len] at hv
      cases hv
      have R1 := Lib.hid hR
      have BW := Lib.hid (BEh.out.trans (hb.mono BEh.out.size))
      clear hown
      go_wp2_with fail
      refine (RO.out _ _ wr R1.out).mono ?_
      rintro e w2 ⟨rfl, hb2⟩
      have B2 := Lib.hid (BW.out.trans (hb2.mono BW.out.size))
      clear hb2
      go_wp2_with fail
      refine (IO.out _).mono ?_
      rintro e w3 ⟨v, B, rfl, how, h1, h2, hb3⟩
      have B3 := Lib.hid (B2.out.trans (hb3.mono B2.out.size))
      have BS := Lib.hid B2.out.size
      have OW := Lib.hid how
      clear how hb3
      go_wp2_with fail
      go_ret
      exact ⟨v, B, rfl, OW.out, Nat.le_trans BS.out h1, h2, B3.out⟩
set_option maxRecDepth 100000 in
set_option maxHeartbeats 1000000 in
theorem rfull_any (p d md l : Int) (wa : Bool) (A : Option Addr) (n c : Nat) (cap : Int) (w : World) :
    Calls Try.prog 51 #[carV p d md l wa A n c, .int .i64 cap] w fun e w' => e = .returned (.bool (decide (cap ≤ (n : Int)))) ∧ Below w.heap.size w w' := by
  unfold carV
  go_enter Try.func51, Try.ntmps51
  go_wp2_with fail
  go_ret
  exact ⟨rfl, (Below.refl w.heap.size w).alloc (Nat.le_refl _) _⟩
set_option maxRecDepth 100000 in
set_option maxHeartbeats 1000000 in
theorem rlands_any (p d md l : Int) (wa : Bool) (A : Option Addr) (n c : Nat) (cap : Int) (G : Nat → Bool) (w : World) :
    Calls Try.prog 34 #[carV p d md l wa A n c, .int .i64 cap, setV G] w fun e w' => ∃ v B, e = .returned v ∧ w'.ownsRow B 3 1 v (itL (laF n cap G) 128).length ((itL (laF n cap G) 128).map (Value.int .i64)) ∧ w.heap.size ≤ B ∧ B ≤ w'.heap.size ∧ Below w.heap.size w w' := by
  have FC := Lib.hid fun w => rfull_any p d md l wa A n c cap w
  by_cases h : cap ≤ (n : Int)
  · have e0 : itL (laF n cap G) 128 = [] := by
      rw [itL_skip (laF n cap G) 0 128 (by omega) fun j _ _ => by unfold laF; rw [if_pos h]]; rfl
    rw [e0]
    rw [decide_eq_true h] at FC
    unfold carV at FC ⊢
    unfold setV
    obtain ⟨x, hx⟩ : ∃ x, wordX G = x := ⟨_, rfl⟩
    obtain ⟨y, hy⟩ : ∃ y, wordY G = y := ⟨_, rfl⟩
    rw [hx, hy]
    clear hx hy e0
    go_enter Try.func34, Try.ntmps34
    go_wp2_with fail
    refine (FC.out _).mono ?_
    rintro e w2 ⟨rfl, hb⟩
    have E2 := Lib.hid ((two_blk hb).2.2.2)
    clear hb
    go_wp2_with fail
    go_ret
    exact ⟨_, w2.heap.size, rfl, World.ownsRow_nil _ _ _ _, E2.out.size, Nat.le_refl _, E2.out⟩
  · have e0 : itL (laF n cap G) 128 = itL G 128 := by congr 1; funext j; unfold laF; rw [if_neg h]
    rw [e0]
    rw [decide_eq_false h] at FC
    have IO := fun w => items_own G w
    unfold carV at FC ⊢
    unfold setV at IO ⊢
    obtain ⟨x, hx⟩ : ∃ x, wordX G = x := ⟨_, rfl⟩
    obtain ⟨y, hy⟩ : ∃ y, wordY G = y := ⟨_, rfl⟩
    simp only [hx, hy] at IO ⊢
    replace IO := Lib.hid IO
    clear hx hy e0
    go_enter Try.func34, Try.ntmps34
    go_wp2_with fail
    have bG := Blk.new (w.alloc (.cells #[(.int .i64 p : Value), .int .i64 d, .int .i64 md, .int .i64 l, .bool wa, .slice A n c] 29)) #[(.int .u64 x : Value), .int .u64 y] 32
    rw [World.size_alloc] at bG
    refine (FC.out _).mono ?_
    rintro e w2 ⟨rfl, hb⟩
    obtain ⟨g0, g1, _, _⟩ := (bG.next hb).two
    have E2 := Lib.hid ((two_blk hb).2.2.2)
    clear hb bG
    go_wp2_with fail
    refine (IO.out _).mono ?_
    rintro e w3 ⟨v, B, rfl, how, h1, h2, hb3⟩
    have B3 := Lib.hid (E2.out.trans (hb3.mono E2.out.size))
    have BS := Lib.hid E2.out.size
    have OW := Lib.hid how
    clear how hb3
    go_wp2_with fail
    go_ret
    exact ⟨v, B, rfl, OW.out, Nat.le_trans BS.out h1, h2, B3.out⟩
end Go.Proofs.Ytffcmfpadaebdaa


namespace Go.Proofs.Ytffcmfpadaebdaa
open Go.RowKit
set_option linter.unusedSimpArgs false
set_option linter.unusedVariables false
theorem ofF_list (L : List Int) (j : Nat) : ofF L L.length j = true ↔ (j : Int) ∈ L := by
  rw [ofF_mem L j _ (Nat.le_refl _)]
  constructor
  · rintro ⟨i, h1, h2⟩; rw [← h2]; exact zat_mem h1
  · intro h; exact mem_zat h
theorem of_items (G : Nat → Bool) : setV (ofF (itL G 128) (itL G 128).length) = setV G := setV_congr fun j hj => by
  rw [Bool.eq_iff_iff, ofF_list, itL_mem]
  constructor
  · rintro ⟨m, _, h2, h3⟩; obtain rfl : j = m := by omega
    exact h2
  · intro h; exact ⟨j, hj, h, rfl⟩
/-- all that a car is to stop at, as the document lists it -/
def wantL (z : Nat → Nat → Int) (n : Nat) (cap : Int) (U D : Nat → Bool) : List Int := itL (rdF z n) 128 ++ itL (laF n cap U) 128 ++ itL (laF n cap D) 128
theorem wantL_set (z : Nat → Nat → Int) (n : Nat) (cap : Int) (U D : Nat → Bool) : setV (ofF (wantL z n cap U D) (wantL z n cap U D).length) = setV (waF z n cap U D) := setV_congr fun j hj => by
  rw [Bool.eq_iff_iff, ofF_list]
  unfold wantL
  rw [List.mem_append, List.mem_append, itL_mem, itL_mem, itL_mem]
  have key : ∀ F : Nat → Bool, (∃ m : Nat, m < 128 ∧ F m = true ∧ (j : Int) = m) ↔ F j = true := fun F => by
    constructor
    · rintro ⟨m, _, h2, h3⟩; obtain rfl : j = m := by omega
      exact h2
    · intro h; exact ⟨j, hj, h, rfl⟩
  rw [key, key, key]
  unfold waF laF
  split
  · simp
  · simp [or_assoc]
theorem wantL_len (z : Nat → Nat → Int) (n : Nat) (cap : Int) (U D : Nat → Bool) : (wantL z n cap U D).length ≤ 384 := by
  unfold wantL
  rw [List.length_append, List.length_append]
  have h1 := itL_len (rdF z n) 128
  have h2 := itL_len (laF n cap U) 128
  have h3 := itL_len (laF n cap D) 128
  omega
theorem wantL_wf (z : Nat → Nat → Int) (n : Nat) (cap : Int) (U D : Nat → Bool) : ∀ i, i < (wantL z n cap U D).length → (Lit.int .i64 (zat (wantL z n cap U D) i)).wf = true := fun i hi => by
  have hm := zat_mem hi
  unfold wantL at hm
  rw [List.mem_append, List.mem_append, itL_mem, itL_mem, itL_mem] at hm
  unfold wantL
  rcases hm with (⟨m, h1, _, h3⟩ | ⟨m, h1, _, h3⟩) | ⟨m, h1, _, h3⟩
  · rw [h3]; exact WalkArith.wf_i64 (by omega)
  · rw [h3]; exact WalkArith.wf_i64 (by omega)
  · rw [h3]; exact WalkArith.wf_i64 (by omega)
theorem own_next {w w' : World} {base : Nat} {e : TypeId} {size n : Nat} {v : Value} {xs : List Value} (h : w.ownsRow base e size v n xs) (hb : Below w.heap.size w w') : w'.ownsRow base e size v n xs := h.kept (below_growW hb) (Classical.em (v.ownBlock = none))
theorem one_all (xs : List Int) : ∀ u ∈ xs.map (Value.int .i64), u.oneCell' = true := by
  intro u hu
  obtain ⟨a, _, rfl⟩ := List.mem_map.1 hu
  rfl
set_option maxRecDepth 100000 in
set_option maxHeartbeats 4000000 in
theorem rwof_any (p d md l : Int) (wa : Bool) (A : Option Addr) (n c : Nat) (z : Nat → Nat → Int) (cap : Int) (U D : Nat → Bool) (w : World) (hr : RdZ w 2 A n z) (hl : n ≤ 1000) :
    Calls Try.prog 32 #[carV p d md l wa A n c, .int .i64 cap, setV U, setV D] w fun e w' => e = .returned (setV (waF z n cap U D)) ∧ Below w.heap.size w w' := by
  obtain ⟨i0, hi, hz0, hz1, hz2⟩ := info_parts mkInfo
  have HR := Lib.hid hr
  have RI := fun w hr => rrides_any p d md l wa A n c z w hr hl
  have LU := fun w => rlands_any p d md l wa A n c cap U w
  have LD := fun w => rlands_any p d md l wa A n c cap D w
  have RO := fun A c w hr => rof_any A c (wantL z n cap U D) w hr (by have := wantL_len z n cap U D; omega)
  rw [wantL_set] at RO
  have i1 := itL_len (rdF z n) 128
  have i2 := itL_len (laF n cap U) 128
  have i3 := itL_len (laF n cap D) 128
  have WF := Lib.hid (wantL_wf z n cap U D)
  have WD := Lib.hid (show wantL z n cap U D = itL (rdF z n) 128 ++ itL (laF n cap U) 128 ++ itL (laF n cap D) 128 from rfl)
  obtain ⟨WL, hWL⟩ : ∃ L, wantL z n cap U D = L := ⟨_, rfl⟩
  rw [hWL] at RO WF WD
  obtain ⟨Lr, hLr⟩ : ∃ L, itL (rdF z n) 128 = L := ⟨_, rfl⟩
  obtain ⟨Lu, hLu⟩ : ∃ L, itL (laF n cap U) 128 = L := ⟨_, rfl⟩
  obtain ⟨Ld, hLd⟩ : ∃ L, itL (laF n cap D) 128 = L := ⟨_, rfl⟩
  rw [hLr] at RI i1 WD
  rw [hLu] at LU i2 WD
  rw [hLd] at LD i3 WD
  obtain ⟨nr, hnr⟩ : ∃ k, Lr.length = k := ⟨_, rfl⟩
  obtain ⟨nu, hnu⟩ : ∃ k, Lu.length = k := ⟨_, rfl⟩
  obtain ⟨nd, hnd⟩ : ∃ k, Ld.length = k := ⟨_, rfl⟩
  rw [hnr] at RI i1
  rw [hnu] at LU i2
  rw [hnd] at LD i3
  have NR := Lib.hid hnr
  have NU := Lib.hid hnu
  have ND := Lib.hid hnd
  clear hWL hLr hLu hLd hnr hnu hnd hr
  unfold carV setV at *
  obtain ⟨a0, ha0⟩ : ∃ x, wordX U = x := ⟨_, rfl⟩
  obtain ⟨a1, ha1⟩ : ∃ x, wordY U = x := ⟨_, rfl⟩
  obtain ⟨b0, hb0⟩ : ∃ x, wordX D = x := ⟨_, rfl⟩
  obtain ⟨b1, hb1⟩ : ∃ x, wordY D = x := ⟨_, rfl⟩
  obtain ⟨t0, ht0⟩ : ∃ x, wordX (waF z n cap U D) = x := ⟨_, rfl⟩
  obtain ⟨t1, ht1⟩ : ∃ x, wordY (waF z n cap U D) = x := ⟨_, rfl⟩
  simp only [ha0, ha1, hb0, hb1, ht0, ht1] at RI LU LD RO ⊢
  replace RI := Lib.hid RI
  replace LU := Lib.hid LU
  replace LD := Lib.hid LD
  replace RO := Lib.hid RO
  clear ha0 ha1 hb0 hb1 ht0 ht1
  go_enter Try.func32, Try.ntmps32
  go_wp2_with fail
  have B0 := ((Blk.new w #[.int .i64 p, .int .i64 d, .int .i64 md, .int .i64 l, .bool wa, .slice A n c] 29).alloc (.cells #[.int .u64 a0, .int .u64 a1] 32)).alloc (.cells #[.int .u64 b0, .int .u64 b1] 32) |>.alloc (.cells #[.int .u64 0, .int .u64 0] 32)
  have B1 := ((Blk.new (w.alloc (.cells #[.int .i64 p, .int .i64 d, .int .i64 md, .int .i64 l, .bool wa, .slice A n c] 29)) #[.int .u64 a0, .int .u64 a1] 32).alloc (.cells #[.int .u64 b0, .int .u64 b1] 32)).alloc (.cells #[.int .u64 0, .int .u64 0] 32)
  have B2 := (Blk.new ((w.alloc (.cells #[.int .i64 p, .int .i64 d, .int .i64 md, .int .i64 l, .bool wa, .slice A n c] 29)).alloc (.cells #[.int .u64 a0, .int .u64 a1] 32)) #[.int .u64 b0, .int .u64 b1] 32).alloc (.cells #[.int .u64 0, .int .u64 0] 32)
  have B3 := Blk.new (((w.alloc (.cells #[.int .i64 p, .int .i64 d, .int .i64 md, .int .i64 l, .bool wa, .slice A n c] 29)).alloc (.cells #[.int .u64 a0, .int .u64 a1] 32)).alloc (.cells #[.int .u64 b0, .int .u64 b1] 32)) #[.int .u64 0, .int .u64 0] 32
  have BE : Below w.heap.size w ((((w.alloc (.cells #[.int .i64 p, .int .i64 d, .int .i64 md, .int .i64 l, .bool wa, .slice A n c] 29)).alloc (.cells #[.int .u64 a0, .int .u64 a1] 32)).alloc (.cells #[.int .u64 b0, .int .u64 b1] 32)).alloc (.cells #[.int .u64 0, .int .u64 0] 32)) := ((((Below.refl w.heap.size w).alloc (Nat.le_refl _) _).alloc (by simp) _).alloc (by simp; omega) _).alloc (by simp; omega) _
  rw [World.size_alloc] at B1
  rw [World.size_alloc, World.size_alloc] at B2
  rw [World.size_alloc, World.size_alloc, World.size_alloc] at B3
  obtain ⟨V, hV⟩ : ∃ V, (((w.alloc (.cells #[.int .i64 p, .int .i64 d, .int .i64 md, .int .i64 l, .bool wa, .slice A n c] 29)).alloc (.cells #[.int .u64 a0, .int .u64 a1] 32)).alloc (.cells #[.int .u64 b0, .int .u64 b1] 32)).alloc (.cells #[.int .u64 0, .int .u64 0] 32) = V := ⟨_, rfl⟩
  have hsz : V.heap.size = w.heap.size + 1 + 1 + 1 + 1 := by rw [← hV]; simp
  rw [hV] at B0 B1 B2 B3 BE ⊢
  have C0 := Lib.hid B0
  have U0 := Lib.hid B1
  have D0 := Lib.hid B2
  have S0 := Lib.hid B3
  have E0 := Lib.hid BE
  have SZ := Lib.hid hsz
  clear hV B0 B1 B2 B3 BE hsz
  refine (RI.out V (HR.out.kept E0.out)).mono ?_
  rintro e w1 ⟨v, Bv, rfl, how, hB1, hB2, hb⟩
  have OW := Lib.hid how
  have GB := Lib.hid (show w.heap.size + 1 + 1 + 1 + 1 ≤ Bv by have := SZ.out; omega)
  have HB := Lib.hid hB2
  have C1 := Lib.hid (C0.out.next hb)
  have U1 := Lib.hid (U0.out.next hb)
  have D1 := Lib.hid (D0.out.next hb)
  have S1 := Lib.hid (S0.out.next hb)
  have E1 := Lib.hid (E0.out.trans (hb.mono E0.out.size))
  clear hb how hB1 hB2 C0 U0 D0 S0 E0
  have k0 : w1.cell? ⟨w.heap.size, 0, none⟩ = some (.int .i64 p) := C1.out.cell 0
  have k1 : w1.cell? ⟨w.heap.size, 1, none⟩ = some (.int .i64 d) := C1.out.cell 1
  have k2 : w1.cell? ⟨w.heap.size, 2, none⟩ = some (.int .i64 md) := C1.out.cell 2
  have k3 : w1.cell? ⟨w.heap.size, 3, none⟩ = some (.int .i64 l) := C1.out.cell 3
  have k4 : w1.cell? ⟨w.heap.size, 4, none⟩ = some (.bool wa) := C1.out.cell 4
  have k5 : w1.cell? ⟨w.heap.size, 5, none⟩ = some (.slice A n c) := C1.out.cell 5
  obtain ⟨u0, u1, _, _⟩ := U1.out.two
  obtain ⟨m0, m1, _, _⟩ := D1.out.two
  go_wp2_with fail
  refine (LU.out w1).mono ?_
  rintro e w2 ⟨vu, Bu, rfl, how, _, _, hb⟩
  have OW := Lib.hid (own_next OW.out hb)
  have HB := Lib.hid (Nat.le_trans HB.out hb.size)
  have C2 := Lib.hid (C1.out.next hb)
  have U2 := Lib.hid (U1.out.next hb)
  have D2 := Lib.hid (D1.out.next hb)
  have S2 := Lib.hid (S1.out.next hb)
  have E2 := Lib.hid (E1.out.trans (hb.mono E1.out.size))
  clear C1 U1 D1 S1 E1 k0 k1 k2 k3 k4 k5 u0 u1 m0 m1
  have OU := Lib.hid how
  clear hb how
  have k0 : w2.cell? ⟨w.heap.size, 0, none⟩ = some (.int .i64 p) := C2.out.cell 0
  have k1 : w2.cell? ⟨w.heap.size, 1, none⟩ = some (.int .i64 d) := C2.out.cell 1
  have k2 : w2.cell? ⟨w.heap.size, 2, none⟩ = some (.int .i64 md) := C2.out.cell 2
  have k3 : w2.cell? ⟨w.heap.size, 3, none⟩ = some (.int .i64 l) := C2.out.cell 3
  have k4 : w2.cell? ⟨w.heap.size, 4, none⟩ = some (.bool wa) := C2.out.cell 4
  have k5 : w2.cell? ⟨w.heap.size, 5, none⟩ = some (.slice A n c) := C2.out.cell 5
  obtain ⟨u0, u1, _, _⟩ := U2.out.two
  obtain ⟨m0, m1, _, _⟩ := D2.out.two
  rcases OU.out.2 with ⟨rfl, h0⟩ | ⟨gu, capu, curu, rfl, hxu⟩
  · obtain rfl : Lu = [] := List.eq_nil_of_length_eq_zero (by rw [NU.out]; exact h0)
    obtain rfl : nu = 0 := h0
    go_wp2_with (at_builtin; refine wpList_append_own_none rfl _ _ 67 rfl Bv 3 i0 1 Try.underlying67 hi v nr _ rfl OW.out rfl ?_)
    refine (LD.out w2).mono ?_
    rintro e w4 ⟨vd, Bd, rfl, how, _, _, hb⟩
    have OW := Lib.hid (own_next OW.out hb)
    have HB := Lib.hid (Nat.le_trans HB.out hb.size)
    have C4 := Lib.hid (C2.out.next hb)
    have U4 := Lib.hid (U2.out.next hb)
    have D4 := Lib.hid (D2.out.next hb)
    have S4 := Lib.hid (S2.out.next hb)
    have E4 := Lib.hid (E2.out.trans (hb.mono E2.out.size))
    clear C2 U2 D2 S2 E2 k0 k1 k2 k3 k4 k5 u0 u1 m0 m1
    have OD := Lib.hid how
    clear hb how
    have k0 : w4.cell? ⟨w.heap.size, 0, none⟩ = some (.int .i64 p) := C4.out.cell 0
    have k1 : w4.cell? ⟨w.heap.size, 1, none⟩ = some (.int .i64 d) := C4.out.cell 1
    have k2 : w4.cell? ⟨w.heap.size, 2, none⟩ = some (.int .i64 md) := C4.out.cell 2
    have k3 : w4.cell? ⟨w.heap.size, 3, none⟩ = some (.int .i64 l) := C4.out.cell 3
    have k4 : w4.cell? ⟨w.heap.size, 4, none⟩ = some (.bool wa) := C4.out.cell 4
    have k5 : w4.cell? ⟨w.heap.size, 5, none⟩ = some (.slice A n c) := C4.out.cell 5
    obtain ⟨u0, u1, _, _⟩ := U4.out.two
    obtain ⟨m0, m1, _, _⟩ := D4.out.two
    rcases OD.out.2 with ⟨rfl, h0⟩ | ⟨gd, capd, curd, rfl, hxd⟩
    · obtain rfl : Ld = [] := List.eq_nil_of_length_eq_zero (by rw [ND.out]; exact h0)
      obtain rfl : nd = 0 := h0
      go_wp2_with (at_builtin; refine wpList_append_own_none rfl _ _ 67 rfl Bv 3 i0 1 Try.underlying67 hi v nr _ rfl OW.out rfl ?_)
      obtain ⟨B, cc, hv, hR⟩ := ownR_rd (ys := WL) (by rw [WD.out]; simp only [List.length_append, List.map_append, NR.out, NU.out, ND.out]; first | exact OW.out | simpa using OW.out) WF.out
      subst hv
      have RR := Lib.hid hR
      clear hR
      go_wp2_with fail
      refine (RO.out _ _ _ RR.out).mono ?_
      rintro e w9 ⟨rfl, hb⟩
      obtain ⟨rs0, rs1, rf0, rf1⟩ := (S4.out.next hb).two
      have E9 := Lib.hid (E4.out.trans (hb.mono E4.out.size))
      clear hb
      go_wp2_with fail
      refine bodyPost_ret (v := .agg #[.int .u64 t0, .int .u64 t1]) (by simp [results, Try.results32, go_sem, *]) rfl ⟨rfl, (E9.out.setCell (p := ⟨w.heap.size + 1 + 1 + 1, 0, none⟩) (by show w.heap.size ≤ w.heap.size + 1 + 1 + 1; omega) _).setCell (p := ⟨w.heap.size + 1 + 1 + 1, 1, none⟩) (by show w.heap.size ≤ w.heap.size + 1 + 1 + 1; omega) _⟩
    · have hcd := Lib.hid (fun j u h => OD.out.cells (g := gd) rfl j u h)
      clear hxd
      go_wp2_with (
        at_builtin
        refine wpList_append_own _ rfl _ _ 67 rfl Bv 3 i0 (.int .i64 0) 1 8 Try.underlying67 hi hz0 hz1 hz2 rfl (by decide) v nr _ rfl OW.out ⟨gd, 0, none⟩ nd capd (Ld.map (Value.int .i64)) rfl (by rw [List.length_map, ND.out]; omega) hcd.out (one_all _) (by unfold maxLen; omega) (by omega) HB.out ?_
        intro vy w5 hown' hgrow _
        have hfar : ∀ q, q < w.heap.size + 1 + 1 + 1 + 1 → some q ≠ v.ownBlock := fun q hq e => by
          have := ownR_ge OW.out e.symm
          have := GB.out
          omega
        have hE : Below w.heap.size w w5 := E4.out.grown hgrow E4.out.size (fun g hg => by
          have h1 := GB.out
          first
            | (have := ownR_ge OW.out hg; omega)
            | (have := ownR_ge OW.out hg.symm; omega))
        have C5 : Hid (Blk w5 w.heap.size 29 #[.int .i64 p, .int .i64 d, .int .i64 md, .int .i64 l, .bool wa, .slice A n c]) := Lib.hid ((hgrow.block _ C4.out.lt (hfar _ (by omega))).trans C4.out)
        have U5 : Hid (Blk w5 (w.heap.size + 1) 32 #[.int .u64 a0, .int .u64 a1]) := Lib.hid ((hgrow.block _ U4.out.lt (hfar _ (by omega))).trans U4.out)
        have D5 : Hid (Blk w5 (w.heap.size + 1 + 1) 32 #[.int .u64 b0, .int .u64 b1]) := Lib.hid ((hgrow.block _ D4.out.lt (hfar _ (by omega))).trans D4.out)
        have S5 : Hid (Blk w5 (w.heap.size + 1 + 1 + 1) 32 #[.int .u64 0, .int .u64 0]) := Lib.hid ((hgrow.block _ S4.out.lt (hfar _ (by omega))).trans S4.out)
        have E5 := Lib.hid hE
        have HB := Lib.hid (Nat.le_trans HB.out hgrow.size)
        have OW := Lib.hid hown'
        clear hown' hgrow hfar hE C4 U4 D4 S4 E4 k0 k1 k2 k3 k4 k5 u0 u1 m0 m1)
      obtain ⟨B, cc, hv, hR⟩ := ownR_rd (ys := WL) (by rw [WD.out]; simp only [List.length_append, List.map_append, NR.out, NU.out, ND.out]; first | exact OW.out | simpa using OW.out) WF.out
      subst hv
      have RR := Lib.hid hR
      clear hR
      go_wp2_with fail
      refine (RO.out _ _ _ RR.out).mono ?_
      rintro e w9 ⟨rfl, hb⟩
      obtain ⟨rs0, rs1, rf0, rf1⟩ := (S5.out.next hb).two
      have E9 := Lib.hid (E5.out.trans (hb.mono E5.out.size))
      clear hb
      go_wp2_with fail
      refine bodyPost_ret (v := .agg #[.int .u64 t0, .int .u64 t1]) (by simp [results, Try.results32, go_sem, *]) rfl ⟨rfl, (E9.out.setCell (p := ⟨w.heap.size + 1 + 1 + 1, 0, none⟩) (by show w.heap.size ≤ w.heap.size + 1 + 1 + 1; omega) _).setCell (p := ⟨w.heap.size + 1 + 1 + 1, 1, none⟩) (by show w.heap.size ≤ w.heap.size + 1 + 1 + 1; omega) _⟩
  · have hcu := Lib.hid (fun j u h => OU.out.cells (g := gu) rfl j u h)
    clear hxu
    go_wp2_with (
      at_builtin
      refine wpList_append_own _ rfl _ _ 67 rfl Bv 3 i0 (.int .i64 0) 1 8 Try.underlying67 hi hz0 hz1 hz2 rfl (by decide) v nr _ rfl OW.out ⟨gu, 0, none⟩ nu capu (Lu.map (Value.int .i64)) rfl (by rw [List.length_map, NU.out]; omega) hcu.out (one_all _) (by unfold maxLen; omega) (by omega) HB.out ?_
      intro vx w3 hown' hgrow _
      have hfar : ∀ q, q < w.heap.size + 1 + 1 + 1 + 1 → some q ≠ v.ownBlock := fun q hq e => by
        have := ownR_ge OW.out e.symm
        have := GB.out
        omega
      have hE : Below w.heap.size w w3 := E2.out.grown hgrow E2.out.size (fun g hg => by
        have h1 := GB.out
        first
          | (have := ownR_ge OW.out hg; omega)
          | (have := ownR_ge OW.out hg.symm; omega))
      have C3 : Hid (Blk w3 w.heap.size 29 #[.int .i64 p, .int .i64 d, .int .i64 md, .int .i64 l, .bool wa, .slice A n c]) := Lib.hid ((hgrow.block _ C2.out.lt (hfar _ (by omega))).trans C2.out)
      have U3 : Hid (Blk w3 (w.heap.size + 1) 32 #[.int .u64 a0, .int .u64 a1]) := Lib.hid ((hgrow.block _ U2.out.lt (hfar _ (by omega))).trans U2.out)
      have D3 : Hid (Blk w3 (w.heap.size + 1 + 1) 32 #[.int .u64 b0, .int .u64 b1]) := Lib.hid ((hgrow.block _ D2.out.lt (hfar _ (by omega))).trans D2.out)
      have S3 : Hid (Blk w3 (w.heap.size + 1 + 1 + 1) 32 #[.int .u64 0, .int .u64 0]) := Lib.hid ((hgrow.block _ S2.out.lt (hfar _ (by omega))).trans S2.out)
      have E3 := Lib.hid hE
      have HB := Lib.hid (Nat.le_trans HB.out hgrow.size)
      have OW := Lib.hid hown'
      clear hown' hgrow hfar hE C2 U2 D2 S2 E2 k0 k1 k2 k3 k4 k5 u0 u1 m0 m1
      have k0 : w3.cell? ⟨w.heap.size, 0, none⟩ = some (.int .i64 p) := C3.out.cell 0
      have k1 : w3.cell? ⟨w.heap.size, 1, none⟩ = some (.int .i64 d) := C3.out.cell 1
      have k2 : w3.cell? ⟨w.heap.size, 2, none⟩ = some (.int .i64 md) := C3.out.cell 2
      have k3 : w3.cell? ⟨w.heap.size, 3, none⟩ = some (.int .i64 l) := C3.out.cell 3
      have k4 : w3.cell? ⟨w.heap.size, 4, none⟩ = some (.bool wa) := C3.out.cell 4
      have k5 : w3.cell? ⟨w.heap.size, 5, none⟩ = some (.slice A n c) := C3.out.cell 5
      obtain ⟨u0, u1, _, _⟩ := U3.out.two
      obtain ⟨m0, m1, _, _⟩ := D3.out.two)
    refine (LD.out w3).mono ?_
    rintro e w4 ⟨vd, Bd, rfl, how, _, _, hb⟩
    have OW := Lib.hid (own_next OW.out hb)
    have HB := Lib.hid (Nat.le_trans HB.out hb.size)
    have C4 := Lib.hid (C3.out.next hb)
    have U4 := Lib.hid (U3.out.next hb)
    have D4 := Lib.hid (D3.out.next hb)
    have S4 := Lib.hid (S3.out.next hb)
    have E4 := Lib.hid (E3.out.trans (hb.mono E3.out.size))
    clear C3 U3 D3 S3 E3 k0 k1 k2 k3 k4 k5 u0 u1 m0 m1
    have OD := Lib.hid how
    clear hb how
    have k0 : w4.cell? ⟨w.heap.size, 0, none⟩ = some (.int .i64 p) := C4.out.cell 0
    have k1 : w4.cell? ⟨w.heap.size, 1, none⟩ = some (.int .i64 d) := C4.out.cell 1
    have k2 : w4.cell? ⟨w.heap.size, 2, none⟩ = some (.int .i64 md) := C4.out.cell 2
    have k3 : w4.cell? ⟨w.heap.size, 3, none⟩ = some (.int .i64 l) := C4.out.cell 3
    have k4 : w4.cell? ⟨w.heap.size, 4, none⟩ = some (.bool wa) := C4.out.cell 4
    have k5 : w4.cell? ⟨w.heap.size, 5, none⟩ = some (.slice A n c) := C4.out.cell 5
    obtain ⟨u0, u1, _, _⟩ := U4.out.two
    obtain ⟨m0, m1, _, _⟩ := D4.out.two
    rcases OD.out.2 with ⟨rfl, h0⟩ | ⟨gd, capd, curd, rfl, hxd⟩
    · obtain rfl : Ld = [] := List.eq_nil_of_length_eq_zero (by rw [ND.out]; exact h0)
      obtain rfl : nd = 0 := h0
      go_wp2_with (at_builtin; refine wpList_append_own_none rfl _ _ 67 rfl Bv 3 i0 1 Try.underlying67 hi vx (nr + nu) _ rfl OW.out rfl ?_)
      obtain ⟨B, cc, hv, hR⟩ := ownR_rd (ys := WL) (by rw [WD.out]; simp only [List.length_append, List.map_append, NR.out, NU.out, ND.out]; first | exact OW.out | simpa using OW.out) WF.out
      subst hv
      have RR := Lib.hid hR
      clear hR
      go_wp2_with fail
      refine (RO.out _ _ _ RR.out).mono ?_
      rintro e w9 ⟨rfl, hb⟩
      obtain ⟨rs0, rs1, rf0, rf1⟩ := (S4.out.next hb).two
      have E9 := Lib.hid (E4.out.trans (hb.mono E4.out.size))
      clear hb
      go_wp2_with fail
      refine bodyPost_ret (v := .agg #[.int .u64 t0, .int .u64 t1]) (by simp [results, Try.results32, go_sem, *]) rfl ⟨rfl, (E9.out.setCell (p := ⟨w.heap.size + 1 + 1 + 1, 0, none⟩) (by show w.heap.size ≤ w.heap.size + 1 + 1 + 1; omega) _).setCell (p := ⟨w.heap.size + 1 + 1 + 1, 1, none⟩) (by show w.heap.size ≤ w.heap.size + 1 + 1 + 1; omega) _⟩
    · have hcd := Lib.hid (fun j u h => OD.out.cells (g := gd) rfl j u h)
      clear hxd
      go_wp2_with (
        at_builtin
        refine wpList_append_own _ rfl _ _ 67 rfl Bv 3 i0 (.int .i64 0) 1 8 Try.underlying67 hi hz0 hz1 hz2 rfl (by decide) vx (nr + nu) _ rfl OW.out ⟨gd, 0, none⟩ nd capd (Ld.map (Value.int .i64)) rfl (by rw [List.length_map, ND.out]; omega) hcd.out (one_all _) (by unfold maxLen; omega) (by omega) HB.out ?_
        intro vy w5 hown' hgrow _
        have hfar : ∀ q, q < w.heap.size + 1 + 1 + 1 + 1 → some q ≠ vx.ownBlock := fun q hq e => by
          have := ownR_ge OW.out e.symm
          have := GB.out
          omega
        have hE : Below w.heap.size w w5 := E4.out.grown hgrow E4.out.size (fun g hg => by
          have h1 := GB.out
          first
            | (have := ownR_ge OW.out hg; omega)
            | (have := ownR_ge OW.out hg.symm; omega))
        have C5 : Hid (Blk w5 w.heap.size 29 #[.int .i64 p, .int .i64 d, .int .i64 md, .int .i64 l, .bool wa, .slice A n c]) := Lib.hid ((hgrow.block _ C4.out.lt (hfar _ (by omega))).trans C4.out)
        have U5 : Hid (Blk w5 (w.heap.size + 1) 32 #[.int .u64 a0, .int .u64 a1]) := Lib.hid ((hgrow.block _ U4.out.lt (hfar _ (by omega))).trans U4.out)
        have D5 : Hid (Blk w5 (w.heap.size + 1 + 1) 32 #[.int .u64 b0, .int .u64 b1]) := Lib.hid ((hgrow.block _ D4.out.lt (hfar _ (by omega))).trans D4.out)
        have S5 : Hid (Blk w5 (w.heap.size + 1 + 1 + 1) 32 #[.int .u64 0, .int .u64 0]) := Lib.hid ((hgrow.block _ S4.out.lt (hfar _ (by omega))).trans S4.out)
        have E5 := Lib.hid hE
        have HB := Lib.hid (Nat.le_trans HB.out hgrow.size)
        have OW := Lib.hid hown'
        clear hown' hgrow hfar hE C4 U4 D4 S4 E4 k0 k1 k2 k3 k4 k5 u0 u1 m0 m1)
      obtain ⟨B, cc, hv, hR⟩ := ownR_rd (ys := WL) (by rw [WD.out]; simp only [List.length_append, List.map_append, NR.out, NU.out, ND.out]; first | exact OW.out | simpa using OW.out) WF.out
      subst hv
      have RR := Lib.hid hR
      clear hR
      go_wp2_with fail
      refine (RO.out _ _ _ RR.out).mono ?_
      rintro e w9 ⟨rfl, hb⟩
      obtain ⟨rs0, rs1, rf0, rf1⟩ := (S5.out.next hb).two
      have E9 := Lib.hid (E5.out.trans (hb.mono E5.out.size))
      clear hb
      go_wp2_with fail
      refine bodyPost_ret (v := .agg #[.int .u64 t0, .int .u64 t1]) (by simp [results, Try.results32, go_sem, *]) rfl ⟨rfl, (E9.out.setCell (p := ⟨w.heap.size + 1 + 1 + 1, 0, none⟩) (by show w.heap.size ≤ w.heap.size + 1 + 1 + 1; omega) _).setCell (p := ⟨w.heap.size + 1 + 1 + 1, 1, none⟩) (by show w.heap.size ≤ w.heap.size + 1 + 1 + 1; omega) _⟩
end Go.Proofs.Ytffcmfpadaebdaa

