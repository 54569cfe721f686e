/- Contracts of the document's sets: Items. -/
import Derived.Test.YtdcollehdhkngaaDoorRows
import Derived.Test.YtdcollehdhkngaaDoorRowKit
import Derived.Test.YtdcollehdhkngaaDoorSlicesEq
import Derived.Test.YtdcollehdhkngaaDoorRowL
import Derived.Test.YtdcollehdhkngaaDoorMakeI
import Derived.Test.YtdcollehdhkngaaDoorBlocks
import Derived.Test.YtdcollehdhkngaaDoorBitsMath
import Derived.Test.YtdcollehdhkngaaDoorBitsA2
import Derived.Test.YtdcollehdhkngaaDoorBitsD
import Derived.Test.YtdcollehdhkngaaDoorBitsE
import Derived.Test.YtdcollehdhkngaaDoorBitsG
import Derived.WalkKit
import Derived.IntWalk
import Derived.Lib.Hide
import Derived.WalkSpells
import Derived.WalkLawsBesides
import Derived.Laws.CopyOwn
import Derived.Laws.MakeOwn
import Derived.Laws.OwnMore
import Derived.OwnWalk
import Derived.Deep.WholeRow
import Derived.Deep.QuietTactic
import Derived.Deep.LoopGhost
import Derived.BigQuiet
namespace Go.Proofs.YtdcollehdhkngaaDoor
open Go.RowKit
set_option linter.unusedSimpArgs false
set_option linter.unusedVariables false
/-- the numbers of a set below k, rising -/
def itL (F : Nat → Bool) : Nat → List Int
  | 0 => []
  | k + 1 => if F k then itL F k ++ [(k : Int)] else itL F k
theorem itL_no {F : Nat → Bool} {k : Nat} (h : F k = false) : itL F (k + 1) = itL F k := by
  show (if F k then _ else _) = _
  rw [h]; rfl
theorem itL_yes {F : Nat → Bool} {k : Nat} (h : F k = true) : itL F (k + 1) = itL F k ++ [(k : Int)] := by
  show (if F k then _ else _) = _
  rw [h]; rfl
theorem itL_len (F : Nat → Bool) : ∀ k, (itL F k).length ≤ k
  | 0 => Nat.le_refl _
  | k + 1 => by
    have := itL_len F k
    unfold itL
    split
    · rw [List.length_append, List.length_singleton]; omega
    · omega
theorem itL_mem (F : Nat → Bool) (z : Int) : ∀ k, z ∈ itL F k ↔ ∃ m : Nat, m < k ∧ F m = true ∧ z = m
  | 0 => by simp [itL]
  | k + 1 => by
    unfold itL
    have ih := itL_mem F z k
    split
    · rename_i h
      rw [List.mem_append, ih, List.mem_singleton]
      constructor
      · rintro (⟨m, h1, h2, h3⟩ | h3)
        · exact ⟨m, by omega, h2, h3⟩
        · exact ⟨k, by omega, h, h3⟩
      · rintro ⟨m, h1, h2, h3⟩
        by_cases e : m = k
        · subst e; exact .inr h3
        · exact .inl ⟨m, by omega, h2, h3⟩
    · rename_i h
      rw [ih]
      constructor
      · rintro ⟨m, h1, h2, h3⟩; exact ⟨m, by omega, h2, h3⟩
      · rintro ⟨m, h1, h2, h3⟩
        by_cases e : m = k
        · subst e; exact absurd h2 h
        · exact ⟨m, by omega, h2, h3⟩
theorem zat_mem {zs : List Int} {i : Nat} (h : i < zs.length) : zat zs i ∈ zs := by
  have := zat_get h
  exact List.mem_of_getElem? this
theorem mem_zat {zs : List Int} {z : Int} (h : z ∈ zs) : ∃ i, i < zs.length ∧ zat zs i = z := by
  obtain ⟨i, hi, e⟩ := List.mem_iff_getElem.1 h
  refine ⟨i, hi, ?_⟩
  have := zat_get hi
  rw [List.getElem?_eq_getElem hi] at this
  exact (Option.some.inj this).symm.trans e
theorem itL_bd (F : Nat → Bool) (k i : Nat) (h : i < (itL F k).length) : 0 ≤ zat (itL F k) i ∧ zat (itL F k) i < k := by
  obtain ⟨m, h1, _, h3⟩ := (itL_mem F _ k).1 (zat_mem h)
  omega
theorem itL_wf (F : Nat → Bool) (k : Nat) (hk : k ≤ 128) : ∀ i, i < (itL F k).length → (Lit.int .i64 (zat (itL F k) i)).wf = true := fun i hi => by
  have := itL_bd F k i hi
  exact WalkArith.wf_i64 (by omega)
/-- the numbers so far, in the loop -/
def RIt (F : Nat → Bool) (k : Nat) (v : Value) (X0 wr : World) : Prop := wr.ownsRow X0.heap.size 3 1 v (itL F k).length ((itL F k).map (Value.int .i64)) ∧ Below X0.heap.size X0 wr
set_option maxRecDepth 100000 in
set_option maxHeartbeats 1000000 in
theorem items_any (F : Nat → Bool) (w : World) :
    Calls Tryd.prog 19 #[setV F] w fun e w' => ∃ A c, e = .returned (.slice A (itL F 128).length c) ∧ RdI w' .i64 A (itL F 128) ∧ Below w.heap.size w w' := by
  obtain ⟨i0, hi, hz0, hz1, hz2⟩ := info_parts mkInfo
  have RS := row_set F
  have LEN := Lib.hid (itL_len F)
  have HZ := zc_run
  have HC := zc_cells
  unfold setV at RS ⊢
  obtain ⟨x, hX⟩ : ∃ x, wordX F = x := ⟨_, rfl⟩
  obtain ⟨y, hY⟩ : ∃ y, wordY F = y := ⟨_, rfl⟩
  rw [hX, hY] at RS ⊢
  have RSh := Lib.hid RS
  clear hX hY RS
  go_enter Tryd.func19, Tryd.ntmps19
  go_wp2_with (first
    | (go_at_call 62; refine (RSh.out _).mono ?_; rintro e w2 ⟨rfl, hb2⟩; have B2 := Lib.hid (one_blk hb2).2.2; clear hb2)
    | (refine wpList_store_row rfl 84 (.tmp 3) (.tmp 7) rfl w2.heap.size (rowC F 128) rfl rfl 84 zc (heap_alloc_last _ _) (by rw [rowC_size]; exact info59) (by rw [rowC_size, zsize]) (rowC_all _ _) ?_))
  have HB : Blk ((w2.alloc (.cells zc 84)).setRow w2.heap.size (rowC F 128)) w2.heap.size 84 (rowC F 128) := setRow_heap _ _ _ _ _ _ (heap_alloc_last _ _)
  have BE : Below w.heap.size w ((w2.alloc (.cells zc 84)).setRow w2.heap.size (rowC F 128)) := below_setRow (B2.out.alloc B2.out.size _) B2.out.size _
  obtain ⟨X0, hX0⟩ : ∃ X, (w2.alloc (.cells zc 84)).setRow w2.heap.size (rowC F 128) = X := ⟨_, rfl⟩
  rw [hX0] at HB BE ⊢
  obtain ⟨g, hg⟩ : ∃ g, w2.heap.size = g := ⟨_, rfl⟩
  rw [hg] at HB ⊢
  have HBh := Lib.hid HB
  have BEh := Lib.hid BE
  clear hX0 hg HB BE B2 HZ HC
  go_loopg [4, 5] 128 (fun gh v i wr => ∃ k : Nat, k ≤ 128 ∧ gh = 128 - k ∧ i = .int .i64 k ∧ RIt F k v X0 wr)
  case atStart => exact ⟨0, by omega, rfl, rfl, World.ownsRow_nil _ _ _ _, Below.refl _ _⟩
  case round =>
    obtain ⟨k, hk, rfl, rfl, hown, hb⟩ := hrel
    obtain ⟨vA, vc, hv⟩ := mkSlice hown
    subst hv
    have hm := LEN.out k
    by_cases h : k < 128
    · have S0 := (HBh.out.next hb).cell k
      rw [rowC_get _ _ _ h] at S0
      have hkI : (k : Int) < 128 := by omega
      cases hF : F k
      · have E : Hid (RIt F (k + 1) (.slice vA (itL F k).length vc) X0 wr) := Lib.hid (by unfold RIt; rw [itL_no hF]; exact ⟨hown, hb⟩)
        simp only [hF, Bool.and_false] at S0
        clear hF hown
        go_wp2_with fail
        go_roundg (128 - (k + 1))
        case measure => omega
        case rel => exact ⟨k + 1, by omega, rfl, by go_num, E.out⟩
      · have E : Hid (∀ v' w1, w1.ownsRow X0.heap.size 3 1 v' ((itL F k).length + 1) ((itL F k).map (Value.int .i64) ++ [.int .i64 (k : Int)]) → Below X0.heap.size X0 w1 → RIt F (k + 1) v' X0 w1) := Lib.hid fun v' w1 h1 h2 => by
          unfold RIt; rw [itL_yes hF]
          simp only [List.length_append, List.length_singleton, List.map_append, List.map_cons, List.map_nil]
          exact ⟨h1, h2⟩
        simp only [hF, h, decide_true, Bool.and_true] at S0
        obtain ⟨m, hme⟩ : ∃ m, (itL F k).length = m := ⟨_, rfl⟩
        rw [hme] at hown hm E ⊢
        clear hF hme
        go_wp2_with (at_builtin; refine wpList_append_own _ rfl _ _ 25 rfl X0.heap.size 3 i0 (.int .i64 0) 1 8 Tryd.underlying25 hi hz0 hz1 hz2 rfl (by decide) _ _ _ rfl (hown.alloc _) ⟨_, 0, none⟩ 1 1 [.int .i64 (k : Int)] rfl rfl one_newR (by intro u hu; simp at hu; subst hu; rfl) (by unfold maxLen; omega) (by omega) (by have := hb.size; simp; omega) ?_; intro v' w1 hown' hgrow _)
        have hb1 : Below X0.heap.size X0 w1 := by
          refine (hb.alloc hb.size _).grown hgrow (by have := hb.size; simp; omega) (fun g hg => ?_)
          first | exact ownR_ge hown hg | exact ownR_ge hown hg.symm
        have HR := E.out v' w1 hown' hb1
        clear hown' hgrow E
        go_wp2_with fail
        go_roundg (128 - (k + 1))
        case measure => omega
        case rel => exact ⟨k + 1, by omega, rfl, by go_num, HR⟩
    · obtain rfl : k = 128 := by omega
      obtain ⟨B, cc, hv, hR⟩ := ownR_rd hown (itL_wf F 128 (Nat.le_refl _))
      cases hv
      have BW := BEh.out.trans (hb.mono BEh.out.size)
      go_wp2_with fail
      go_ret
      exact ⟨_, _, rfl, hR, BW⟩
end Go.Proofs.YtdcollehdhkngaaDoor
