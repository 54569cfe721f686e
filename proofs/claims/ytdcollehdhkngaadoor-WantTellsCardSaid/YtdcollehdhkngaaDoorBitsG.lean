/- Contracts of the document's sets: Of. -/
import Derived.Test.YtdcollehdhkngaaDoorRows
import Derived.Test.YtdcollehdhkngaaDoorRowKit
import Derived.Test.YtdcollehdhkngaaDoorSlicesEq
import Derived.Test.YtdcollehdhkngaaDoorRowL
import Derived.Test.YtdcollehdhkngaaDoorMakeI
import Derived.Test.YtdcollehdhkngaaDoorBlocks
import Derived.Test.YtdcollehdhkngaaDoorBitsMath
import Derived.Test.YtdcollehdhkngaaDoorBitsA2
import Derived.Test.YtdcollehdhkngaaDoorBitsD
import Derived.Test.YtdcollehdhkngaaDoorBitsE
import Derived.WalkKit
import Derived.IntWalk
import Derived.Lib.Hide
import Derived.WalkSpells
import Derived.WalkLawsBesides
import Derived.Laws.CopyOwn
import Derived.Deep.WholeRow
import Derived.Deep.QuietTactic
import Derived.Deep.LoopGhost
import Derived.BigQuiet
namespace Go.Proofs.YtdcollehdhkngaaDoor
open Go.RowKit
set_option linter.unusedSimpArgs false
set_option linter.unusedVariables false
theorem zc_none : zc = rowC (fun _ => false) 128 := by
  rw [zero128 fun _ => false]
  unfold rowC
  congr 1
theorem rowC_with (F : Nat → Bool) (n : Nat) (hn : n < 128) : (rowC F 128).setIfInBounds n (.bool true) = rowC (withF F n) 128 := by
  apply Array.ext
  · simp [rowC]
  · intro i h1 h2
    have hi : i < 128 := by simpa [rowC] using h2
    rw [Array.getElem_setIfInBounds (by simpa [rowC] using hi)]
    unfold withF
    split
    · rename_i e; subst e; simp [rowC, hi]
    · rename_i e
      simp only [rowC, List.getElem_toArray, List.getElem_map, List.getElem_range]
      have : ((i : Int) == (n : Int)) = false := by rw [beq_eq_false_iff_ne]; omega
      rw [this, Bool.or_false]
theorem rowC_wout (F : Nat → Bool) {z : Int} (hz : z < 0 ∨ 128 ≤ z) : rowC F 128 = rowC (withF F z) 128 := rowC_congr fun j hj => by
  unfold withF
  have : ((j : Int) == z) = false := by rw [beq_eq_false_iff_ne]; omega
  rw [this, Bool.or_false]
structure RfW (w X : World) (cs : Array Value) : Prop where
  r : Blk X w.heap.size 24 #[.int .u64 0, .int .u64 0]
  s : Blk X (w.heap.size + 1) 84 cs
  e : Below w.heap.size w X
set_option maxRecDepth 100000 in
set_option maxHeartbeats 1000000 in
theorem rof_any (A : Option Addr) (c : Nat) (zs : List Int) (w : World) (hr : RdI w .i64 A zs) (hl : zs.length ≤ 1000000) :
    Calls Tryd.prog 12 #[.slice A zs.length c] w fun e w' => e = .returned (setV (ofF zs zs.length)) ∧ Below w.heap.size w w' := by
  obtain ⟨n, hn⟩ : ∃ n, zs.length = n := ⟨_, rfl⟩
  rw [hn] at hl ⊢
  have HN := Lib.hid hn
  have HR := Lib.hid hr
  clear hn hr
  have HZ := zc_run
  have HC := zc_cells
  go_enter Tryd.func12, Tryd.ntmps12
  go_wp2_with fail
  have H0 : RfW w ((w.alloc (.cells #[.int .u64 0, .int .u64 0] 24)).alloc (.cells zc 84)) zc := ⟨(Blk.new w _ _).alloc _, by have := Blk.new (w.alloc (.cells #[.int .u64 0, .int .u64 0] 24)) zc 84; rwa [World.size_alloc] at this, ((Below.refl w.heap.size w).alloc (Nat.le_refl _) _).alloc (by simp) _⟩
  have H1 := Lib.hid H0
  clear H0
  go_loopg [4] n (fun g i wr => ∃ k : Nat, k ≤ n ∧ g = n - k ∧ i = .int .i64 k ∧ Hid (RfW w wr (rowC (ofF zs k) 128)))
  case atStart => exact ⟨0, by omega, rfl, rfl, Lib.hid (by show RfW w _ (rowC (fun _ => false) 128); rw [← zc_none]; exact H1.out)⟩
  case round =>
    obtain ⟨k, hk, rfl, rfl, HO⟩ := hrel
    clear H1
    by_cases h : k < n
    · obtain ⟨b, off, rfl, hlt, hc⟩ := rdI_row (HR.out.kept HO.out.e) (by have := HN.out; omega)
      have ck := hc k (by have := HN.out; omega)
      have E : Hid (withF (ofF zs k) (zat zs k) = ofF zs (k + 1)) := Lib.hid rfl
      obtain ⟨z, hz⟩ : ∃ z, zat zs k = z := ⟨_, rfl⟩
      rw [hz] at ck E
      have hki : (k : Int) < n := by omega
      clear hz hc HZ HC
      by_cases hin : 0 ≤ z ∧ z < 128
      · obtain ⟨m, rfl⟩ := Int.eq_ofNat_of_zero_le hin.1
        have hm : m < 128 := by omega
        have hmI : (m : Int) < 128 := by omega
        have S0 := HO.out.s.cell m
        rw [rowC_get _ _ _ hm] at S0
        have S1 := HO.out.s.frozen m
        have H2 : RfW w (wr.setCell ⟨w.heap.size + 1, m, none⟩ (.bool true)) (rowC (ofF zs (k + 1)) 128) := ⟨HO.out.r.far (by show w.heap.size ≠ w.heap.size + 1; omega) _, by rw [← E.out, ← rowC_with _ _ hm]; exact HO.out.s.set m _, HO.out.e.setCell (by show w.heap.size ≤ w.heap.size + 1; omega) _⟩
        have H3 := Lib.hid H2
        obtain ⟨bb, hbb⟩ : ∃ bb, (decide (m < 128) && ofF zs k m) = bb := ⟨_, rfl⟩
        rw [hbb] at S0
        clear hbb H2 hin
        go_wp2_with fail
        go_roundg (n - (k + 1))
        case measure => omega
        case rel => exact ⟨k + 1, by omega, rfl, by go_num, H3⟩
      · have H3 : Hid (RfW w wr (rowC (ofF zs (k + 1)) 128)) := Lib.hid (by rw [← E.out, ← rowC_wout _ (by omega)]; exact HO.out)
        rcases (show z < 0 ∨ (0 ≤ z ∧ 128 ≤ z) by omega) with h1 | ⟨h1, h2⟩
        all_goals (
          clear hin
          go_wp2_with fail
          go_roundg (n - (k + 1))
          case measure => omega
          case rel => exact ⟨k + 1, by omega, rfl, by go_num, H3⟩)
    · obtain rfl : k = n := by omega
      have MK := make_set (ofF zs k)
      unfold setV at MK
      have SVh := Lib.hid (show setV (ofF zs k) = .agg #[.int .u64 (wordX (ofF zs k)), .int .u64 (wordY (ofF zs k))] from rfl)
      obtain ⟨x, hx⟩ : ∃ x, wordX (ofF zs k) = x := ⟨_, rfl⟩
      obtain ⟨y, hy⟩ : ∃ y, wordY (ofF zs k) = y := ⟨_, rfl⟩
      rw [hx, hy] at SVh MK
      have MKh := Lib.hid MK
      have HS := Lib.hid (show wr.heap[w.heap.size + 1]? = some (.cells (rowC (ofF zs k) 128) 84) from HO.out.s)
      clear hx hy MK HZ HC
      go_wp2_with (first
        | (refine wpList_load_row rfl 84 (.tmp 3) rfl (w.heap.size + 1) rfl 84 (rowC (ofF zs k) 128) (0, 0) _ HS.out Tryd.underlying84 rfl (by rw [rowC_size]; exact info59) ?_)
        | (go_at_call 63; refine (MKh.out _).mono ?_; rintro e w2 ⟨rfl, hb2⟩; obtain ⟨p0, p1, q0, q1⟩ := (HO.out.r.next hb2).two; have B5 := Lib.hid (HO.out.e.trans (hb2.mono HO.out.e.size)); clear hb2))
      refine bodyPost_ret (v := .agg #[.int .u64 x, .int .u64 y]) (by simp [results, Tryd.results12, go_sem, *]) rfl ⟨by rw [SVh.out], (B5.out.setCell (Nat.le_refl _) _).setCell (Nat.le_refl _) _⟩
end Go.Proofs.YtdcollehdhkngaaDoor
