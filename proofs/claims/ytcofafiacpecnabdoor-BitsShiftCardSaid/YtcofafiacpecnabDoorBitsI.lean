/- Contracts of the document's sets: Shift. -/
import Derived.Test.YtcofafiacpecnabDoorRows
import Derived.Test.YtcofafiacpecnabDoorRowKit
import Derived.Test.YtcofafiacpecnabDoorSlicesEq
import Derived.Test.YtcofafiacpecnabDoorRowL
import Derived.Test.YtcofafiacpecnabDoorMakeI
import Derived.Test.YtcofafiacpecnabDoorBlocks
import Derived.Test.YtcofafiacpecnabDoorBitsMath
import Derived.Test.YtcofafiacpecnabDoorBitsA2
import Derived.Test.YtcofafiacpecnabDoorBitsD
import Derived.Test.YtcofafiacpecnabDoorBitsE
import Derived.Test.YtcofafiacpecnabDoorBitsF
import Derived.Test.YtcofafiacpecnabDoorBitsG
import Derived.Test.YtcofafiacpecnabDoorBitsH
import Derived.WalkKit
import Derived.IntWalk
import Derived.Lib.Hide
import Derived.WalkSpells
import Derived.WalkLawsBesides
import Derived.Laws.CopyOwn
import Derived.Laws.MakeOwn
import Derived.Laws.OwnMore
import Derived.OwnWalk
import Derived.Deep.QuietTactic
import Derived.Deep.LoopGhost
import Derived.BigQuiet
namespace Go.Proofs.YtcofafiacpecnabDoor
open Go.RowKit
set_option linter.unusedSimpArgs false
set_option linter.unusedVariables false
theorem ofF_iff (zs : List Int) (j : Nat) : ∀ n, ofF zs n j = true ↔ ∃ i, i < n ∧ (j : Int) = zat zs i
  | 0 => by simp [ofF]
  | n + 1 => by
    have ih := ofF_iff zs j n
    show (ofF zs n j || ((j : Int) == zat zs n)) = true ↔ _
    rw [Bool.or_eq_true, ih, beq_iff_eq]
    constructor
    · rintro (⟨i, h1, h2⟩ | h2)
      · exact ⟨i, by omega, h2⟩
      · exact ⟨n, by omega, h2⟩
    · rintro ⟨i, h1, h2⟩
      by_cases e : i = n
      · subst e; exact .inr h2
      · exact .inl ⟨i, by omega, h2⟩
theorem shF_row (F : Nat → Bool) (k : Int) : setV (ofF (rowL (fun i => zat (itL F 128) i + k) (itL F 128).length) (itL F 128).length) = setV (shF F k) := setV_congr fun j hj => by
  rw [Bool.eq_iff_iff, ofF_iff]
  unfold shF
  rw [Bool.and_eq_true, Bool.and_eq_true, decide_eq_true_iff, decide_eq_true_iff]
  constructor
  · rintro ⟨i, hi, e⟩
    rw [rowL_at _ hi] at e
    obtain ⟨m, h1, h2, h3⟩ := (itL_mem F _ 128).1 (zat_mem hi)
    refine ⟨⟨by omega, by omega⟩, ?_⟩
    rw [show ((j : Int) - k).toNat = m by omega]
    exact h2
  · rintro ⟨⟨h1, h2⟩, h3⟩
    obtain ⟨i, hi, e⟩ := mem_zat ((itL_mem F ((j : Int) - k) 128).2 ⟨_, by omega, h3, by omega⟩)
    refine ⟨i, hi, ?_⟩
    rw [rowL_at _ hi]
    omega
theorem shF_none (F : Nat → Bool) {k : Int} (h : k < -200 ∨ 200 < k) : setV (shF F k) = .agg #[.int .u64 0, .int .u64 0] := by
  have : setV (shF F k) = setV (fun _ => false) := setV_congr fun j hj => by
    unfold shF
    rcases h with h | h
    · simp only [show ¬ (j : Int) - k < 128 by omega, decide_false, Bool.false_and, Bool.and_false]
    · simp only [show ¬ (0 : Int) ≤ (j : Int) - k by omega, decide_false, Bool.false_and]
  rw [this]
  unfold setV
  rw [word_none.1, word_none.2]; rfl
set_option maxRecDepth 100000 in
set_option maxHeartbeats 1000000 in
theorem rshift_out (F : Nat → Bool) (k : Int) (w : World) (h : k < -200 ∨ 200 < k) :
    Calls Tryd.prog 30 #[setV F, .int .i64 k] w fun e w' => e = .returned (setV (shF F k)) ∧ Below w.heap.size w w' := by
  rw [shF_none F h]
  unfold setV
  obtain ⟨x, hX⟩ : ∃ x, wordX F = x := ⟨_, rfl⟩
  obtain ⟨y, hY⟩ : ∃ y, wordY F = y := ⟨_, rfl⟩
  rw [hX, hY]
  clear hX hY
  rcases (show (k ≤ 200 ∧ k < -200) ∨ 200 < k by omega) with ⟨h1, h2⟩ | h1
  all_goals (
    go_enter Tryd.func30, Tryd.ntmps30
    go_wp2_with fail
    refine bodyPost_ret (v := .agg #[.int .u64 0, .int .u64 0]) (by simp [results, Tryd.results30, go_sem, *]) rfl ⟨rfl, ?_⟩
    first
      | exact ((Below.refl w.heap.size w).alloc (Nat.le_refl _) _).alloc (by simp) _
      | exact ((((Below.refl w.heap.size w).alloc (Nat.le_refl _) _).alloc (by simp) _).setCell (by show w.heap.size ≤ w.heap.size + 1; omega) _).setCell (by show w.heap.size ≤ w.heap.size + 1; omega) _)
set_option maxRecDepth 100000 in
set_option maxHeartbeats 1000000 in
theorem rshift_in (F : Nat → Bool) (k : Int) (w : World) (h1 : -200 ≤ k) (h2 : k ≤ 200) :
    Calls Tryd.prog 30 #[setV F, .int .i64 k] w fun e w' => e = .returned (setV (shF F k)) ∧ Below w.heap.size w w' := by
  obtain ⟨i0, hi, hz0, hz1, hz2⟩ := info_parts mkInfo
  have IT := items_any F
  have SH := shF_row F k
  have BD := itL_bd F 128
  have LEN := itL_len F 128
  obtain ⟨zs, hzs⟩ : ∃ zs, itL F 128 = zs := ⟨_, rfl⟩
  rw [hzs] at IT SH BD LEN
  obtain ⟨n, hn⟩ : ∃ n, zs.length = n := ⟨_, rfl⟩
  rw [hn] at IT SH LEN
  have HN := Lib.hid hn
  have HBD := Lib.hid BD
  have OF := fun (A : Option Addr) (c : Nat) (w : World) (hr : RdI w .i64 A (rowL (fun i => zat zs i + k) n)) => rof_any A c _ w hr (by rw [rowL_len]; omega)
  rw [rowL_len, SH] at OF
  clear hzs hn BD SH
  unfold setV at IT OF ⊢
  obtain ⟨x, hX⟩ : ∃ x, wordX F = x := ⟨_, rfl⟩
  obtain ⟨y, hY⟩ : ∃ y, wordY F = y := ⟨_, rfl⟩
  obtain ⟨x', hX'⟩ : ∃ x, wordX (shF F k) = x := ⟨_, rfl⟩
  obtain ⟨y', hY'⟩ : ∃ y, wordY (shF F k) = y := ⟨_, rfl⟩
  rw [hX, hY] at IT
  rw [hX', hY'] at OF
  rw [hX, hY, hX', hY']
  have ITh := Lib.hid IT
  have OFh := Lib.hid OF
  clear hX hY hX' hY' IT OF
  go_enter Tryd.func30, Tryd.ntmps30
  go_wp2_with (go_at_call 15; refine (ITh.out _).mono ?_; rintro e X0 ⟨A, cA, rfl, hA, hb2⟩; obtain ⟨B1, B2, B3, B4⟩ := two_blk hb2; have HA := Lib.hid hA; have HR := Lib.hid B2; have BE := Lib.hid B4; clear hb2 B1 B2 B4 hA)
  go_loopg [6, 7] n (fun gh v i wr => ∃ j : Nat, j ≤ n ∧ gh = n - j ∧ i = .int .i64 j ∧ wr.ownsRow X0.heap.size 3 1 v j ((rowL (fun i => zat zs i + k) j).map (Value.int .i64)) ∧ Below X0.heap.size X0 wr)
  case atStart => exact ⟨0, by omega, rfl, rfl, World.ownsRow_nil _ _ _ _, Below.refl _ _⟩
  case round =>
    obtain ⟨j, hj, rfl, rfl, hown, hb⟩ := hrel
    obtain ⟨vA, vc, hv⟩ := mkSlice hown
    subst hv
    by_cases h : j < n
    · obtain ⟨b, off, rfl, hlt, hc⟩ := rdI_row (HA.out.kept hb) (by have := HN.out; omega)
      have cj := hc j (by have := HN.out; omega)
      have bj := HBD.out j (by have := HN.out; omega)
      have E : Hid (∀ (v' : Value) (w1 : World), w1.ownsRow X0.heap.size 3 1 v' (j + 1) ((rowL (fun i => zat zs i + k) j).map (Value.int .i64) ++ [.int .i64 (zat zs j + k)]) → w1.ownsRow X0.heap.size 3 1 v' (j + 1) ((rowL (fun i => zat zs i + k) (j + 1)).map (Value.int .i64))) := Lib.hid fun v' w1 h1 => by
        rw [rowL_succ, List.map_append]; exact h1
      obtain ⟨z, hz⟩ : ∃ z, zat zs j = z := ⟨_, rfl⟩
      rw [hz] at cj bj E
      have hjI : (j : Int) < n := by omega
      clear hz hc
      go_wp2_with (at_builtin; refine wpList_append_own _ rfl _ _ 25 rfl X0.heap.size 3 i0 (.int .i64 0) 1 8 Tryd.underlying25 hi hz0 hz1 hz2 rfl (by decide) _ _ _ rfl (hown.alloc _) ⟨_, 0, none⟩ 1 1 [.int .i64 (z + k)] rfl rfl one_newR (by intro u hu; simp at hu; subst hu; rfl) (by unfold maxLen; omega) (by omega) (by have := hb.size; simp; omega) ?_; intro v' w1 hown' hgrow _)
      have hb1 : Below X0.heap.size X0 w1 := by
        refine (hb.alloc hb.size _).grown hgrow (by have := hb.size; simp; omega) (fun g hg => ?_)
        first | exact ownR_ge hown hg | exact ownR_ge hown hg.symm
      have HR2 := E.out v' w1 hown'
      clear hown' hgrow E
      go_wp2_with fail
      go_roundg (n - (j + 1))
      case measure => omega
      case rel => exact ⟨j + 1, by omega, rfl, by go_num, HR2, hb1⟩
    · obtain rfl : j = n := by omega
      have WF : ∀ i, i < (rowL (fun i => zat zs i + k) j).length → (Lit.int .i64 (zat (rowL (fun i => zat zs i + k) j) i)).wf = true := fun i hi => by
        rw [rowL_len] at hi
        rw [rowL_at _ hi]
        have := HBD.out i (by have := HN.out; omega)
        exact WalkArith.wf_i64 (by omega)
      obtain ⟨B, cc, hv, hR⟩ := ownR_rd (ownR_len hown (rowL_len _ _)) WF
      rw [rowL_len] at hv
      cases hv
      have RB := HR.out.next hb
      have BW := BE.out.trans (hb.mono BE.out.size)
      have RBh := Lib.hid RB
      have BWh := Lib.hid BW
      have hRh := Lib.hid hR
      clear RB BW hR hown WF
      go_wp2_with (go_at_call 8; refine (OFh.out _ _ _ hRh.out).mono ?_; rintro e w5 ⟨rfl, hb5⟩; obtain ⟨p0, p1, q0, q1⟩ := (RBh.out.next hb5).two; have B5 := Lib.hid (BWh.out.trans (hb5.mono BWh.out.size)); clear hb5)
      refine bodyPost_ret (v := .agg #[.int .u64 x', .int .u64 y']) (by simp [results, Tryd.results30, go_sem, *]) rfl ⟨rfl, (B5.out.setCell (by show w.heap.size ≤ w.heap.size + 1; omega) _).setCell (by show w.heap.size ≤ w.heap.size + 1; omega) _⟩
theorem rshift_any (F : Nat → Bool) (k : Int) (w : World) :
    Calls Tryd.prog 30 #[setV F, .int .i64 k] w fun e w' => e = .returned (setV (shF F k)) ∧ Below w.heap.size w w' := by
  by_cases h : -200 ≤ k ∧ k ≤ 200
  · exact rshift_in F k w h.1 h.2
  · exact rshift_out F k w (by omega)
end Go.Proofs.YtcofafiacpecnabDoor
