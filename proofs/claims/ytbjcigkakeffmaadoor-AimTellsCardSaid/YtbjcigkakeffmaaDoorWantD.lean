/- The document's Between and Beyond. -/
import Derived.Test.YtbjcigkakeffmaaDoorRows
import Derived.Test.YtbjcigkakeffmaaDoorKitM
import Derived.Test.YtbjcigkakeffmaaDoorBitM
import Derived.Test.YtbjcigkakeffmaaDoorBitsU
import Derived.Test.YtbjcigkakeffmaaDoorBitsX
import Derived.Test.YtbjcigkakeffmaaDoorWantA
import Derived.Test.YtbjcigkakeffmaaDoorWantB
import Derived.Test.YtbjcigkakeffmaaDoorWantC
import Derived.WalkKit
import Derived.OwnWalk
import Derived.Laws.MakeOwn
import Derived.Laws.OwnMore
import Derived.Deep.LoopGhost
import Derived.IntWalk
import Derived.Lib.Hide
import Derived.WalkSpells
import Derived.WalkLawsBesides
import Derived.Laws.CopyOwn
import Derived.Deep.QuietTactic
import Derived.Deep.RegionHeld3
import Derived.BigQuiet
import Derived.BigRegion
namespace Go.Proofs.YtbjcigkakeffmaaDoor
open Go.RowKit
set_option linter.unusedSimpArgs false
set_option linter.unusedVariables false
theorem take_zatW {zs : List Int} {k : Nat} (h : k < zs.length) : zs.take (k + 1) = zs.take k ++ [zat zs k] := by
  rw [List.take_succ_eq_append_getElem h]; unfold zat; rw [List.getD_eq_getElem?_getD, List.getElem?_eq_getElem h]; rfl
set_option maxRecDepth 100000 in
set_option maxHeartbeats 2000000 in
theorem rbetween_any (F : Nat → Bool) (a b : Int) (w : World) :
    Calls Tryd.prog 37 #[setV F, .int .i64 a, .int .i64 b] w fun e w' => e = .returned (.int .i64 (btP a b (itL F 128))) ∧ Below w.heap.size w w' := by
  have DI := fun w => items_any F w
  have IL := itL_len F 128
  unfold setV at DI ⊢
  obtain ⟨x, hX⟩ : ∃ x, wordX F = x := ⟨_, rfl⟩
  obtain ⟨y, hY⟩ : ∃ y, wordY F = y := ⟨_, rfl⟩
  obtain ⟨l, hl⟩ : ∃ l, itL F 128 = l := ⟨_, rfl⟩
  obtain ⟨N, hN⟩ : ∃ N, l.length = N := ⟨_, rfl⟩
  simp only [hX, hY, hl, hN] at DI IL ⊢
  have DIh := Lib.hid DI
  have HN := Lib.hid hN
  clear hX hY hl DI hN
  go_enter Tryd.func37, Tryd.ntmps37
  go_wp2_with fail
  refine (DIh.out _).mono ?_
  rintro e w1 ⟨LA, LC, rfl, hR, hb⟩
  have RL := Lib.hid hR
  have E1 := Lib.hid ((one_blk hb).2.2)
  have hNI : (N : Int) ≤ 128 := by omega
  clear hR hb
  go_wp2_with fail
  go_loopg [8, 9] N (fun g c i wr => ∃ k q : Nat, k ≤ N ∧ g = N - k ∧ i = .int .i64 k ∧ c = .int .i64 q ∧ q ≤ k ∧ wr = w1 ∧ Hid (btP a b (l.take k) = q))
  case atStart => exact ⟨0, 0, by omega, rfl, rfl, rfl, by omega, rfl, Lib.hid rfl⟩
  case round =>
    obtain ⟨k, q, hk, rfl, rfl, rfl, hqk, rfl, hq⟩ := hrel
    by_cases h : k < N
    · obtain ⟨bb, off, rfl, hlt, hc⟩ := rdI_row RL.out (by have := HN.out; omega)
      have ck := hc k (by have := HN.out; omega)
      have T : Hid (l.take (k + 1) = l.take k ++ [zat l k]) := Lib.hid (take_zatW (by have := HN.out; omega))
      obtain ⟨z, hz⟩ : ∃ z, zat l k = z := ⟨_, rfl⟩
      rw [hz] at ck T
      have g2 : (k : Int) < N := by omega
      have CC := btC_cases a b z
      have Y : ∀ h : btC a b z = true, Hid (btP a b (l.take (k + 1)) = q + 1) := fun h => Lib.hid (by rw [T.out, btP_yes _ h, hq.out])
      have Nn : ∀ h : btC a b z = false, Hid (btP a b (l.take (k + 1)) = q) := fun h => Lib.hid (by rw [T.out, btP_no _ h, hq.out])
      clear hc hz T hq
      rcases (show a ≤ b ∨ b < a by omega) with hab | hab
      all_goals (
        first
          | rw [show min a b = a by omega, show max a b = b by omega] at CC
          | rw [show min a b = b by omega, show max a b = a by omega] at CC
        rcases CC with ⟨hc, h1, h2⟩ | ⟨hc, h1⟩ | ⟨hc, h1, h2⟩
        · have U := Y hc
          clear Y Nn hc
          go_wp2_with fail
          all_goals (
            go_roundg (N - (k + 1))
            case measure => omega
            case rel => exact ⟨k + 1, q + 1, by omega, rfl, by go_num, by go_num, by omega, rfl, U⟩)
        · have U := Nn hc
          clear Y Nn hc
          go_wp2_with fail
          all_goals (
            go_roundg (N - (k + 1))
            case measure => omega
            case rel => exact ⟨k + 1, q, by omega, rfl, by go_num, by go_num, by omega, rfl, U⟩)
        · have U := Nn hc
          clear Y Nn hc
          go_wp2_with fail
          all_goals (
            go_roundg (N - (k + 1))
            case measure => omega
            case rel => exact ⟨k + 1, q, by omega, rfl, by go_num, by go_num, by omega, rfl, U⟩))
    · obtain rfl : k = N := by omega
      have hkk : ¬ ((k : Int) < k) := by omega
      have Q : Hid (btP a b l = q) := Lib.hid (by rw [← hq.out, List.take_of_length_le (by have := HN.out; omega)])
      clear hq
      go_wp2_with fail
      go_ret
      exact ⟨by rw [Q.out]; rfl, E1.out⟩
/-- the document's row of what lies on, the nearest first -/
def bx (l : List Int) (d : Int) (N i : Nat) : Int := if d < 0 then zat l (N - 1 - i) else zat l i
def bc (f d z : Int) : Bool := (decide (0 < d) && decide (f < z)) || (decide (d < 0) && decide (z < f))
def rbA (l : List Int) (f d : Int) (N : Nat) : Nat → List Int
  | 0 => []
  | k + 1 => if bc f d (bx l d N k) then rbA l f d N k ++ [bx l d N k] else rbA l f d N k
theorem rbA_len (l : List Int) (f d : Int) (N : Nat) : ∀ k, (rbA l f d N k).length ≤ k
  | 0 => Nat.le_refl _
  | k + 1 => by
    have := rbA_len l f d N k
    unfold rbA
    split
    · rw [List.length_append, List.length_singleton]; omega
    · omega
theorem rbA_mem (l : List Int) (f d : Int) (N : Nat) (z : Int) : ∀ k, z ∈ rbA l f d N k ↔ ∃ i, i < k ∧ z = bx l d N i ∧ bc f d z = true
  | 0 => by simp [rbA]
  | k + 1 => by
    have ih := rbA_mem l f d N z k
    unfold rbA
    split
    · rename_i h
      rw [List.mem_append, ih, List.mem_singleton]
      constructor
      · rintro (⟨i, h1, h2, h3⟩ | h3)
        · exact ⟨i, by omega, h2, h3⟩
        · exact ⟨k, by omega, h3, by rw [h3]; exact h⟩
      · rintro ⟨i, h1, h2, h3⟩
        by_cases e : i = k
        · subst e; exact .inr h2
        · exact .inl ⟨i, by omega, h2, h3⟩
    · rename_i h
      rw [ih]
      constructor
      · rintro ⟨i, h1, h2, h3⟩; exact ⟨i, by omega, h2, h3⟩
      · rintro ⟨i, h1, h2, h3⟩
        by_cases e : i = k
        · subst e; rw [h2] at h3; exact absurd h3 h
        · exact ⟨i, by omega, h2, h3⟩
theorem rbA_pair (l : List Int) (f d : Int) (N : Nat) (R : Int → Int → Prop) (hR : ∀ i j, i < j → j < N → R (bx l d N i) (bx l d N j)) : ∀ k, k ≤ N → (rbA l f d N k).Pairwise R
  | 0, _ => List.Pairwise.nil
  | k + 1, hk => by
    have ih := rbA_pair l f d N R hR k (by omega)
    unfold rbA
    split
    · refine List.pairwise_append.2 ⟨ih, List.pairwise_singleton _ _, fun a ha b hb => ?_⟩
      obtain ⟨i, h1, h2, _⟩ := (rbA_mem l f d N a k).1 ha
      rw [List.mem_singleton.1 hb, h2]
      exact hR i k h1 (by omega)
    · exact ih
/-- the whole row -/
def rbL (F : Nat → Bool) (f d : Int) : List Int := rbA (itL F 128) f d (itL F 128).length (itL F 128).length
theorem rbL_len (F : Nat → Bool) (f d : Int) : (rbL F f d).length ≤ 128 := Nat.le_trans (rbA_len _ _ _ _ _) (itL_len F 128)
theorem bc_by (F : Nat → Bool) (f d : Int) (j : Nat) : (F j = true ∧ bc f d j = true) ↔ byF F f d j = true := by
  unfold bc byF
  rcases (show 0 < d ∨ d < 0 ∨ d = 0 by omega) with h | h | h
  · rw [if_pos h]; simp [h]; intro _; omega
  · rw [if_neg (by omega), if_pos h]; simp [h]; intro _; omega
  · subst h; simp
theorem rbL_mem (F : Nat → Bool) (f d z : Int) : z ∈ rbL F f d ↔ ∃ m : Nat, m < 128 ∧ byF F f d m = true ∧ z = m := by
  unfold rbL
  rw [rbA_mem]
  constructor
  · rintro ⟨i, h1, h2, h3⟩
    have hm : ∃ i', i' < (itL F 128).length ∧ z = zat (itL F 128) i' := by
      unfold bx at h2
      split at h2
      · exact ⟨_, by omega, h2⟩
      · exact ⟨_, h1, h2⟩
    obtain ⟨i', h4, h5⟩ := hm
    obtain ⟨m, hm, hF, e⟩ := itL_at F i' h4
    exact ⟨m, hm, (bc_by F f d m).1 ⟨hF, by rw [← e, ← h5]; exact h3⟩, by rw [h5, e]⟩
  · rintro ⟨m, hm, hb, rfl⟩
    obtain ⟨hF, hc⟩ := (bc_by F f d m).2 hb
    obtain ⟨i, hi, e⟩ := itL_has F m hm hF
    by_cases h : d < 0
    · refine ⟨(itL F 128).length - 1 - i, by omega, ?_, hc⟩
      unfold bx
      rw [if_pos h, show (itL F 128).length - 1 - ((itL F 128).length - 1 - i) = i by omega, e]
    · exact ⟨i, hi, by unfold bx; rw [if_neg h, e], hc⟩
theorem rbL_pair (F : Nat → Bool) (f d : Int) : (rbL F f d).Pairwise fun a b => if d < 0 then b < a else a < b := by
  refine rbA_pair _ _ _ _ _ (fun i j hij hj => ?_) _ (Nat.le_refl _)
  unfold bx
  by_cases h : d < 0
  · simp only [h, if_true]; exact itL_rise F 128 _ _ (by omega) (by omega)
  · simp only [h, if_false]; exact itL_rise F 128 _ _ hij hj
theorem rbL_rise (F : Nat → Bool) (f d : Int) (i j : Nat) (hij : i < j) (hj : j < (rbL F f d).length) : if d < 0 then zat (rbL F f d) j < zat (rbL F f d) i else zat (rbL F f d) i < zat (rbL F f d) j := by
  have h := List.pairwise_iff_getElem.1 (rbL_pair F f d) i j (by omega) hj hij
  have hi := zat_get (show i < (rbL F f d).length by omega)
  have hj' := zat_get hj
  rw [List.getElem?_eq_getElem (by omega)] at hi
  rw [List.getElem?_eq_getElem hj] at hj'
  rw [Option.some.inj hi, Option.some.inj hj'] at h
  exact h
theorem end_none (near : Bool) (F : Nat → Bool) (f d : Int) (h : (rbL F f d).length = 0) : IsEnd near (byF F f d) d 0 false := by
  have hn : ∀ j, j < 128 → byF F f d j = false := fun j hj => by
    cases hb : byF F f d j
    · rfl
    · have := (rbL_mem F f d j).2 ⟨j, hj, hb, rfl⟩
      rw [List.eq_nil_of_length_eq_zero h] at this
      cases this
  unfold IsEnd
  split
  · exact .inr ⟨rfl, rfl, hn⟩
  · exact .inr ⟨rfl, rfl, hn⟩
theorem end_some (near : Bool) (F : Nat → Bool) (f d : Int) (i : Nat) (hi : i < (rbL F f d).length) (he : i = if near then 0 else (rbL F f d).length - 1) : IsEnd near (byF F f d) d (zat (rbL F f d) i) true := by
  obtain ⟨m, hm, hb, e⟩ := (rbL_mem F f d _).1 (zat_mem hi)
  have others : ∀ j : Nat, j < 128 → byF F f d j = true → ∃ i', i' < (rbL F f d).length ∧ zat (rbL F f d) i' = j := fun j hj h => mem_zat ((rbL_mem F f d j).2 ⟨j, hj, h, rfl⟩)
  unfold IsEnd
  split
  · rename_i hd
    refine .inl ⟨rfl, m, e, hm, hb, fun j hj hj2 => ?_⟩
    cases hbj : byF F f d j
    · rfl
    · exfalso
      obtain ⟨i', h1, h2⟩ := others j hj2 hbj
      cases near
      · have hd' : ¬ d < 0 := by simpa using hd
        simp only [Bool.false_eq_true, if_false] at he
        by_cases e' : i' = i
        · subst e'; omega
        · have := rbL_rise F f d i' i (by omega) hi
          rw [if_neg hd'] at this; omega
      · have hd' : d < 0 := by simpa using hd
        simp only [if_true] at he
        by_cases e' : i' = i
        · subst e'; omega
        · have := rbL_rise F f d i i' (by omega) h1
          rw [if_pos hd'] at this; omega
  · rename_i hd
    refine .inl ⟨rfl, m, e, hm, hb, fun j hj => ?_⟩
    cases hbj : byF F f d j
    · rfl
    · exfalso
      obtain ⟨i', h1, h2⟩ := others j (by omega) hbj
      cases near
      · have hd' : d < 0 := by simpa using hd
        simp only [Bool.false_eq_true, if_false] at he
        by_cases e' : i' = i
        · subst e'; omega
        · have := rbL_rise F f d i' i (by omega) hi
          rw [if_pos hd'] at this; omega
      · have hd' : ¬ d < 0 := by simpa using hd
        simp only [if_true] at he
        by_cases e' : i' = i
        · subst e'; omega
        · have := rbL_rise F f d i i' (by omega) h1
          rw [if_neg hd'] at this; omega
theorem ofF_mem (zs : List Int) (j : Nat) : ∀ k, k ≤ zs.length → (ofF zs k j = true ↔ ∃ i, i < k ∧ zat zs i = j)
  | 0, _ => by simp [ofF]
  | k + 1, hk => by
    have ih := ofF_mem zs j k (by omega)
    unfold ofF withF
    rw [Bool.or_eq_true, ih, beq_iff_eq]
    constructor
    · rintro (⟨i, h1, h2⟩ | h2)
      · exact ⟨i, by omega, h2⟩
      · exact ⟨k, by omega, h2.symm⟩
    · rintro ⟨i, h1, h2⟩
      by_cases e : i = k
      · subst e; exact .inr h2.symm
      · exact .inl ⟨i, by omega, h2⟩
theorem rbL_set (F : Nat → Bool) (f d : Int) : setV (ofF (rbL F f d) (rbL F f d).length) = setV (byF F f d) := setV_congr fun j hj => by
  rw [Bool.eq_iff_iff, ofF_mem _ _ _ (Nat.le_refl _)]
  constructor
  · rintro ⟨i, h1, h2⟩
    obtain ⟨m, _, hb, e⟩ := (rbL_mem F f d _).1 (zat_mem h1)
    obtain rfl : j = m := by omega
    exact hb
  · intro h
    exact mem_zat ((rbL_mem F f d j).2 ⟨j, hj, h, rfl⟩)
theorem rbL_wf (F : Nat → Bool) (f d : Int) : ∀ i, i < (rbL F f d).length → (Lit.int .i64 (zat (rbL F f d) i)).wf = true := fun i hi => by
  obtain ⟨m, hm, _, e⟩ := (rbL_mem F f d _).1 (zat_mem hi)
  exact WalkArith.wf_i64 (by omega)
/-- the row so far, in the loop -/
def RRb (l : List Int) (f d : Int) (N k : Nat) (v : Value) (X0 wr : World) : Prop := wr.ownsRow X0.heap.size 3 1 v (rbA l f d N k).length ((rbA l f d N k).map (Value.int .i64)) ∧ Below X0.heap.size X0 wr
end Go.Proofs.YtbjcigkakeffmaaDoor
