/- Contracts of the sets: the program's Range, the document's. -/
import Derived.Test.YteebeiflipfbkaaDoorRows
import Derived.Test.YteebeiflipfbkaaDoorRowKit
import Derived.Test.YteebeiflipfbkaaDoorBlocks
import Derived.Test.YteebeiflipfbkaaDoorBitsMath
import Derived.Test.YteebeiflipfbkaaDoorBitsA2
import Derived.Test.YteebeiflipfbkaaDoorBitsD
import Derived.Test.YteebeiflipfbkaaDoorBitsK
import Derived.Test.YteebeiflipfbkaaDoorBitsO
import Derived.Test.YteebeiflipfbkaaDoorBitsP
import Derived.WalkKit
import Derived.IntWalk
import Derived.Lib.Hide
import Derived.WalkSpells
import Derived.WalkLawsBesides
import Derived.Laws.CopyOwn
import Derived.Deep.WholeRow
import Derived.Deep.QuietTactic
import Derived.Deep.LoopGhost
import Derived.BigQuiet
namespace Go.Proofs.YteebeiflipfbkaaDoor
open Go.RowKit
set_option linter.unusedSimpArgs false
set_option linter.unusedVariables false
theorem Blk.farRow {w : World} {g g' : Nat} {t : TypeId} {cs rs : Array Value} (h : Blk w g t cs) (hg : g ≠ g') : Blk (w.setRow g' rs) g t cs := (setRow_other w g' g rs hg).trans h
/-- the row, in which the first k are told -/
def mixB (R F : Nat → Bool) (k j : Nat) : Bool := if j < k then R j else F j
theorem mixB_zero (R F : Nat → Bool) : mixB R F 0 = F := by funext j; simp [mixB]
theorem mixB_full (R F : Nat → Bool) : rowC (mixB R F 128) 128 = rowC R 128 := rowC_congr fun j hj => by simp [mixB, hj]
theorem mixB_set (R F : Nat → Bool) (k : Nat) (hk : k < 128) : (rowC (mixB R F k) 128).setIfInBounds k (.bool (R k)) = rowC (mixB R F (k + 1)) 128 := by
  apply Array.ext
  · simp [rowC]
  · intro i h1 h2
    have hi : i < 128 := by simpa [rowC] using h2
    rw [Array.getElem_setIfInBounds (by simpa [rowC] using hi)]
    split
    · rename_i e; subst e; simp [rowC, mixB, hi]
    · rename_i e
      simp only [rowC, List.getElem_toArray, List.getElem_map, List.getElem_range, mixB]
      by_cases h : i < k
      · rw [if_pos h, if_pos (by omega)]
      · rw [if_neg h, if_neg (by omega)]
structure RrW (w X : World) (g : Nat) (cs : Array Value) : Prop where
  r : Blk X (w.heap.size + 1) 38 #[.int .u64 0, .int .u64 0]
  s : Blk X g 45 cs
  e : Below w.heap.size w X
  n : w.heap.size + 1 < g
/-- what is in F from a on, ahead of b -/
def cutF (F : Nat → Bool) (a b : Int) (j : Nat) : Bool := F j && decide (a ≤ (j : Int)) && decide ((j : Int) < b)
set_option maxRecDepth 100000 in
set_option maxHeartbeats 1000000 in
theorem rrange_any (F : Nat → Bool) (a b : Int) (w : World) :
    Calls Tryd.prog 10 #[setV F, .int .i64 a, .int .i64 b] w fun e w' => e = .returned (setV (cutF F a b)) ∧ Below w.heap.size w w' := by
  have RF := row_set F
  have MK := make_set (cutF F a b)
  have HZ := zc_run
  have HC := zc_cells
  unfold setV at RF MK ⊢
  obtain ⟨x, hX⟩ : ∃ x, wordX F = x := ⟨_, rfl⟩
  obtain ⟨y, hY⟩ : ∃ y, wordY F = y := ⟨_, rfl⟩
  obtain ⟨x', hX'⟩ : ∃ x, wordX (cutF F a b) = x := ⟨_, rfl⟩
  obtain ⟨y', hY'⟩ : ∃ y, wordY (cutF F a b) = y := ⟨_, rfl⟩
  rw [hX, hY] at RF ⊢
  rw [hX', hY'] at MK ⊢
  have RFh := Lib.hid RF
  have MKh := Lib.hid MK
  clear hX hY hX' hY' RF MK
  go_enter Tryd.func10, Tryd.ntmps10
  go_wp2_with (first
    | (go_at_call 11; refine (RFh.out _).mono ?_; rintro e w2 ⟨rfl, hb2⟩; obtain ⟨_, B2, B3, B4⟩ := two_blk hb2; have H2 := Lib.hid (And.intro B2 (And.intro B3 B4)); clear hb2 B2 B3 B4)
    | (refine wpList_store_row rfl 45 (.tmp 7) (.tmp 10) rfl w2.heap.size (rowC F 128) rfl rfl 45 zc (heap_alloc_last _ _) (by rw [rowC_size]; exact info59) (by rw [rowC_size, zsize]) (rowC_all _ _) ?_))
  have H0 : RrW w ((w2.alloc (.cells zc 45)).setRow w2.heap.size (rowC F 128)) w2.heap.size (rowC F 128) := ⟨(H2.out.1.alloc _).farRow (by have := H2.out.2.1; omega), setRow_heap _ _ _ _ _ _ (heap_alloc_last _ _), below_setRow (H2.out.2.2.alloc H2.out.2.2.size _) H2.out.2.2.size _, H2.out.2.1⟩
  obtain ⟨X0, hX0⟩ : ∃ X, (w2.alloc (.cells zc 45)).setRow w2.heap.size (rowC F 128) = X := ⟨_, rfl⟩
  rw [hX0] at H0 ⊢
  obtain ⟨g, hg⟩ : ∃ g, w2.heap.size = g := ⟨_, rfl⟩
  rw [hg] at H0 ⊢
  have H1 := Lib.hid H0
  clear hX0 hg H0 H2 HZ HC
  go_loopg [8] 128 (fun gh i wr => ∃ k : Nat, k ≤ 128 ∧ gh = 128 - k ∧ i = .int .i64 k ∧ Hid (RrW w wr g (rowC (mixB (cutF F a b) F k) 128)))
  case atStart => exact ⟨0, by omega, rfl, rfl, Lib.hid (by rw [mixB_zero]; exact H1.out)⟩
  case round =>
    obtain ⟨k, hk, rfl, rfl, HO⟩ := hrel
    clear H1
    by_cases h : k < 128
    · have hkI : (k : Int) < 128 := by omega
      have S0 := HO.out.s.cell k
      rw [rowC_get _ _ _ h] at S0
      have S1 := HO.out.s.frozen k
      have E : Hid (∀ v, v = cutF F a b k → RrW w (wr.setCell ⟨g, k, none⟩ (.bool v)) g (rowC (mixB (cutF F a b) F (k + 1)) 128)) := Lib.hid fun v hv => by
        subst hv
        exact ⟨HO.out.r.far (by show w.heap.size + 1 ≠ g; have := HO.out.n; omega) _, by rw [← mixB_set _ _ _ h]; exact HO.out.s.set k _, HO.out.e.setCell (by show w.heap.size ≤ g; have := HO.out.n; omega) _, HO.out.n⟩
      have eF : (decide (k < 128) && mixB (cutF F a b) F k k) = F k := by simp [h, mixB]
      rw [eF] at S0
      have C : (F k = false ∧ cutF F a b k = false) ∨ (F k = true ∧ (k : Int) < a ∧ cutF F a b k = false) ∨ (F k = true ∧ a ≤ (k : Int) ∧ b ≤ (k : Int) ∧ cutF F a b k = false) ∨ (F k = true ∧ a ≤ (k : Int) ∧ (k : Int) < b ∧ cutF F a b k = true) := by
        unfold cutF
        cases F k
        · exact .inl ⟨rfl, rfl⟩
        · by_cases h1 : a ≤ (k : Int)
          · by_cases h2 : (k : Int) < b
            · exact .inr (.inr (.inr ⟨rfl, h1, h2, by simp [h1, h2]⟩))
            · exact .inr (.inr (.inl ⟨rfl, h1, by omega, by simp [h2]⟩))
          · exact .inr (.inl ⟨rfl, by omega, by simp [h1]⟩)
      rcases C with ⟨f0, c⟩ | ⟨f0, f1, c⟩ | ⟨f0, f1, f2, c⟩ | ⟨f0, f1, f2, c⟩
      all_goals (
        rw [f0] at S0
        rw [c] at E
        clear f0 c eF
        go_wp2_with fail
        go_roundg (128 - (k + 1))
        case measure => omega
        case rel => exact ⟨k + 1, by omega, rfl, by go_num, Lib.hid (E.out _ (by first | rfl | (simp; omega)))⟩)
    · obtain rfl : k = 128 := by omega
      have HF := Lib.hid (show RrW w wr g (rowC (cutF F a b) 128) by rw [← mixB_full]; exact HO.out)
      have HS := Lib.hid (show wr.heap[g]? = some (.cells (rowC (cutF F a b) 128) 45) from HF.out.s)
      clear HO
      go_wp2_with (first
        | (refine wpList_load_row rfl 45 (.tmp 7) rfl g rfl 45 (rowC (cutF F a b) 128) (0, 0) _ HS.out Tryd.underlying45 rfl (by rw [rowC_size]; exact info59) ?_)
        | (go_at_call 12; refine (MKh.out _).mono ?_; rintro e w3 ⟨rfl, hb3⟩; obtain ⟨p0, p1, q0, q1⟩ := (HF.out.r.next hb3).two; have B5 := Lib.hid (HF.out.e.trans (hb3.mono HF.out.e.size)); clear hb3))
      refine bodyPost_ret (v := .agg #[.int .u64 x', .int .u64 y']) (by simp [results, Tryd.results10, go_sem, *]) rfl ⟨rfl, (B5.out.setCell (by show w.heap.size ≤ w.heap.size + 1; omega) _).setCell (by show w.heap.size ≤ w.heap.size + 1; omega) _⟩
end Go.Proofs.YteebeiflipfbkaaDoor
