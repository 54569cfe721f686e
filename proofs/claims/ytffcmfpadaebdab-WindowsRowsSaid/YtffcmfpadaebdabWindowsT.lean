/- The law's row of a span: the walk. -/
import Derived.Test.YtffcmfpadaebdabRows
import Derived.Test.YtffcmfpadaebdabRowKit
import Derived.Test.YtffcmfpadaebdabRowS
import Derived.Test.YtffcmfpadaebdabRowZ
import Derived.Test.YtffcmfpadaebdabSlicesEq
import Derived.Test.YtffcmfpadaebdabRowL
import Derived.Test.YtffcmfpadaebdabRowM
import Derived.Test.YtffcmfpadaebdabBlocks
import Derived.Test.YtffcmfpadaebdabWinMath
import Derived.Test.YtffcmfpadaebdabEnergyMin
import Derived.Test.YtffcmfpadaebdabSlicesEqM
import Derived.Test.YtffcmfpadaebdabMakeI
import Derived.Test.YtffcmfpadaebdabPulseMath
import Derived.Test.YtffcmfpadaebdabPulseA
import Derived.Test.YtffcmfpadaebdabWindowsA
import Derived.Test.YtffcmfpadaebdabWindowsB
import Derived.Test.YtffcmfpadaebdabWindowsD
import Derived.Test.YtffcmfpadaebdabWindowsR
import Derived.Test.YtffcmfpadaebdabWindowsS
import Derived.WalkKit
import Derived.IntWalk
import Derived.Lib.Hide
import Derived.Lib.SmallJoins
import Derived.WalkSpells
import Derived.WalkLawsBesides
import Derived.Laws.CopyOwn
import Derived.Laws.MakeOwn
import Derived.Laws.OwnMore
import Derived.OwnWalk
import Derived.Deep.QuietTactic
import Derived.Deep.RegionHeld3
import Derived.Deep.LoopGhost
import Derived.BigQuiet
import Derived.BigRegion
import Derived.Maps.AppendAt
namespace Go.Proofs.Ytffcmfpadaebdab
open Go.RowKit
set_option linter.unusedSimpArgs false
set_option linter.unusedVariables false
theorem rd_one2 {y : Int} (hy : (Lit.int .i64 y).wf = true) (w : World) : RdI (w.alloc (.cells #[.int .i64 y] 3)) .i64 (some ⟨w.heap.size, 0, none⟩) [y] := fun i hi => by
  have h0 : i = 0 := by simp at hi; omega
  subst h0
  exact ⟨_, rfl, by simp, one_newR (t := 3) 0 _ rfl, hy⟩
theorem within_one (g : Nat) (y p q : Int) (X : World) (h : RdI X .i64 (some ⟨g, 0, none⟩) [y]) :
    Calls Try.prog 12 #[.slice (some ⟨g, 0, none⟩) 1 1, .agg #[.int .i64 p, .int .i64 q]] X fun e w' => e = .returned (.int .i64 (if p ≤ y ∧ y < q then 1 else 0)) ∧ Below X.heap.size X w' := by
  refine (lwithin (some ⟨g, 0, none⟩) 1 1 [y] p q X h rfl (by omega)).mono ?_
  rintro e w' ⟨rfl, hb⟩
  refine ⟨?_, hb⟩
  rw [inS_succ]
  show (.returned (.int .i64 ((0 + if p ≤ y ∧ y < q then 1 else 0 : Nat) : Int)) : Ending) = _
  split <;> rfl
theorem snoc_wf {a : List Int} {x : Int} (h : ∀ i, i < a.length → (Lit.int .i64 (zat a i)).wf = true) (hx : (Lit.int .i64 x).wf = true) : ∀ i, i < (a ++ [x]).length → (Lit.int .i64 (zat (a ++ [x]) i)).wf = true := fun i hi => by
  by_cases e : i < a.length
  · rw [zat_app e]; exact h i e
  · have : i = a.length := by simp at hi; omega
    rw [this, zat_last]; exact hx
theorem arr_wf {z : Nat → Nat → Int} {n : Nat} (hz : TripB z n) : ∀ k, k ≤ n → ∀ i, i < (arrL z k).length → (Lit.int .i64 (zat (arrL z k) i)).wf = true
  | 0, _ => fun i hi => by simp [arrL] at hi
  | k + 1, h => snoc_wf (arr_wf hz k (by omega)) (WalkArith.wf_i64 (by have := hz k (by omega); omega))
theorem tick_wf {z : Nat → Nat → Int} {n j : Nat} (hz : TripB z n) (hj : j = 5 ∨ j = 6) : ∀ k, k ≤ n → ∀ i, i < (tickL j z k).length → (Lit.int .i64 (zat (tickL j z k) i)).wf = true
  | 0, _ => fun i hi => by simp [tickL] at hi
  | k + 1, h => by
    have b := hz k (by omega)
    have hx : (Lit.int .i64 (z k j)).wf = true := WalkArith.wf_i64 (by rcases hj with rfl | rfl <;> omega)
    by_cases c : 0 ≤ z k j
    · rw [tickL_yes c]; exact snoc_wf (tick_wf hz hj k (by omega)) hx
    · rw [tickL_no c]; exact tick_wf hz hj k (by omega)
theorem Blk.drew {w : World} {g : Nat} {t : TypeId} {cs : Array Value} (h : Blk w g t cs) : Blk w.drew g t cs := h
theorem mkSliceR {w : World} {base : Nat} {e : TypeId} {v : Value} {n : Nat} {xs : List Value} (h : w.ownsRow base e 1 v n xs) : ∃ (g : Option Addr) (cap : Nat), v = .slice g n cap := mkSlice h
set_option maxRecDepth 100000 in
set_option maxHeartbeats 16000000 in
theorem lrow_any (A : Option Addr) (c n : Nat) (z : Nat → Nat → Int) (p q : Int) (w : World) (hr : RdZ w 7 A n z) (hn : n ≤ 100) (hz : TripB z n) :
    Calls Try.prog 6 #[.slice A n c, .agg #[.int .i64 p, .int .i64 q]] w fun e w' => e = .returned (.agg #[.int .i64 p, .int .i64 q, .int .i64 (ofC p q z n), .int .i64 (ofI p q z n), .int .i64 (ofO p q z n), .int .i64 (ofW p q z n), .int .i64 (ofB p q z n)]) ∧ Below w.heap.size w w' := by
  obtain ⟨i0, hi, hz0, hz1, hz2⟩ := info_parts mkInfo
  have HR := Lib.hid hr
  have HTB := Lib.hid hz
  have F0 := Lib.hid (lr_start w p q)
  have WI := Lib.hid (fun g y X h => within_one g y p q X h)
  clear hr hz
  go_enter Try.func6, Try.ntmps6
  go_wp2_with fail
  go_loopg [5, 6, 7, 8, 9, 10] n (fun gh va vb vc wv bv i wr => ∃ k : Nat, k ≤ n ∧ gh = n - k ∧ i = .int .i64 k ∧ wv = .int .i64 (ofW p q z k) ∧ bv = .int .i64 (ofB p q z k) ∧ Hid (LR w wr va vb vc (arrL z k) (tickL 5 z k) (tickL 6 z k) p q))
  case atStart => exact ⟨0, by omega, rfl, rfl, rfl, rfl, F0⟩
  case round =>
    clear F0
    obtain ⟨k, hk, rfl, rfl, rfl, rfl, HF⟩ := hrel
    obtain ⟨aA, ac, hv⟩ := mkSliceR HF.out.ra
    subst hv
    obtain ⟨bA, bc, hv⟩ := mkSliceR HF.out.rb
    subst hv
    obtain ⟨cA, cc, hv⟩ := mkSliceR HF.out.rc
    subst hv
    have la := arrL_len z k
    have lb := tickL_len 5 z k
    have lc := tickL_len 6 z k
    by_cases h : k < n
    · obtain ⟨b, off, rfl, hlt, hc⟩ := rdZ_row (HR.out.kept HF.out.e) (by omega) (by omega)
      have c0 : wr.cell? ⟨b, off + k * 7, none⟩ = _ := hc k 0 h (by omega)
      have c1 := hc k 1 h (by omega)
      have c2 := hc k 2 h (by omega)
      have c3 := hc k 3 h (by omega)
      have c4 := hc k 4 h (by omega)
      have c5 := hc k 5 h (by omega)
      have c6 := hc k 6 h (by omega)
      have bB := ofB_bd p q z k
      have bW := ofW_bd p q HTB.out k (by omega)
      have bT := HTB.out k h
      have T0 := Lib.hid (Blk.new wr #[.int .i64 (z k 0), .int .i64 (z k 1), .int .i64 (z k 2), .int .i64 (z k 3), .int .i64 (z k 4), .int .i64 (z k 5), .int .i64 (z k 6)] 38)
      have G0 := Lib.hid (HF.out.alloc (.cells #[.int .i64 (z k 0), .int .i64 (z k 1), .int .i64 (z k 2), .int .i64 (z k 3), .int .i64 (z k 4), .int .i64 (z k 5), .int .i64 (z k 6)] 38))
      have RB := Lib.hid (show ∀ v ∈ [Value.slice aA (arrL z k).length ac, .slice bA (tickL 5 z k).length bc, .slice cA (tickL 6 z k).length cc], ∀ g, v.ownBlock = some g → g < wr.heap.size from by
        intro v hv g hg
        simp at hv
        rcases hv with rfl | rfl | rfl
        · exact (HF.out.ra.lt g hg).2
        · exact (HF.out.rb.lt g hg).2
        · exact (HF.out.rc.lt g hg).2)
      have EW : Hid (ofW p q z (k + 1) = ofW p q z k + if 0 ≤ z k 5 ∧ (p ≤ z k 5 ∧ z k 5 < q) then z k 5 - z k 1 else 0) := Lib.hid rfl
      have EB : Hid (ofB p q z (k + 1) = ofB p q z k + if z k 1 < q ∧ (z k 5 < 0 ∨ q ≤ z k 5) then 1 else 0) := Lib.hid rfl
      have w5 : Hid ((Lit.int .i64 (z k 5)).wf = true) := Lib.hid (WalkArith.wf_i64 (by omega))
      clear hc HF
      by_cases hB : 0 ≤ z k 5
      · by_cases hI : p ≤ z k 5 ∧ z k 5 < q
        · by_cases hC : 0 ≤ z k 6
          · skip
            by_cases h1 : z k 1 < q
            · have h5 : z k 5 < q := hI.2
              have dI : (if p ≤ z k 5 ∧ z k 5 < q then (1 : Int) else 0) = 1 := by rw [if_pos hI]
              have eW : ofW p q z (k + 1) = ofW p q z k + (z k 5 - z k 1) := by rw [EW.out, if_pos ⟨hB, hI⟩]
              have eB : ofB p q z (k + 1) = ofB p q z k := by rw [EB.out, if_neg (by omega)]; simp
              have E5 := Lib.hid (tickL_yes hB)
              have E6 := Lib.hid (tickL_yes hC)
              have EW2 := Lib.hid eW
              have EB2 := Lib.hid eB
              clear eW eB EW EB
              go_wp2_with (first
                | (at_builtin; refine wpList_append_own_at _ rfl _ _ 40 rfl (w.heap.size + 1 + 1) 3 i0 (.int .i64 0) 1 8 Try.underlying40 hi hz0 hz1 hz2 rfl (by decide) _ _ _ rfl (G0.out.alloc (.cells #[.int .i64 (z k 1)] 3)).ra ⟨_, 0, none⟩ 1 1 [.int .i64 (z k 1)] rfl rfl (newsM_new2 (cs := #[.int .i64 (z k 1)])) (by intro u hu; simp at hu; subst hu; rfl) (by unfold maxLen; omega) (by omega) (Nat.succ_le_of_lt (G0.out.alloc (.cells #[.int .i64 (z k 1)] 3)).o.lt) ?_; intro va y0 hown hgrow _ hat; have G1 := Lib.hid (lr_a (G0.out.alloc (.cells #[.int .i64 (z k 1)] 3)) hown hgrow hat); have T1 := Lib.hid ((T0.out.alloc (.cells #[.int .i64 (z k 1)] 3)).grownR hgrow (fun g hg => by have := RB.out (.slice aA (arrL z k).length ac) (by simp) g hg; omega)); clear G0 T0 hown hgrow hat; have t1 := T1.out.cell 1; have t5 := T1.out.cell 5; have t6 := T1.out.cell 6; have s0 := G1.out.s.cell 0; have s1 := G1.out.s.cell 1)
                | (at_builtin; refine wpList_append_own_at _ rfl _ _ 40 rfl (w.heap.size + 1 + 1) 3 i0 (.int .i64 0) 1 8 Try.underlying40 hi hz0 hz1 hz2 rfl (by decide) _ _ _ rfl (G1.out.alloc (.cells #[.int .i64 (z k 5)] 3)).rb ⟨_, 0, none⟩ 1 1 [.int .i64 (z k 5)] rfl rfl (newsM_new (cs := #[.int .i64 (z k 5)])) (by intro u hu; simp at hu; subst hu; rfl) (by unfold maxLen; omega) (by omega) (Nat.succ_le_of_lt (G1.out.alloc (.cells #[.int .i64 (z k 5)] 3)).o.lt) ?_; intro vb y1 hown hgrow _ hat; have G2 := Lib.hid (lr_b (G1.out.alloc (.cells #[.int .i64 (z k 5)] 3)) hown hgrow hat); have T2 := Lib.hid ((T1.out.alloc (.cells #[.int .i64 (z k 5)] 3)).grownR hgrow (fun g hg => by have := RB.out (.slice bA (tickL 5 z k).length bc) (by simp) g hg; omega)); clear G1 T1 hown hgrow hat; have t1 := T2.out.cell 1; have t5 := T2.out.cell 5; have t6 := T2.out.cell 6; have s0 := G2.out.s.cell 0; have s1 := G2.out.s.cell 1; have u0 := (G2.out.alloc (.cells #[.int .i64 (z k 5)] 3)).s.cell 0; have u1 := (G2.out.alloc (.cells #[.int .i64 (z k 5)] 3)).s.cell 1))
              refine (WI.out _ _ _ (rd_one2 w5.out _)).mono ?_
              rintro e y2 ⟨rfl, hb⟩
              have G3 := Lib.hid ((G2.out.alloc (.cells #[.int .i64 (z k 5)] 3)).next hb)
              have T3 := Lib.hid ((T2.out.alloc (.cells #[.int .i64 (z k 5)] 3)).next hb)
              clear G2 T2 hb
              have t1 := T3.out.cell 1
              have t5 := T3.out.cell 5
              have t6 := T3.out.cell 6
              have s0 := G3.out.s.cell 0
              have s1 := G3.out.s.cell 1
              rw [dI]
              go_wp2_with (first
                | (at_builtin; refine wpList_append_own_at _ rfl _ _ 40 rfl (w.heap.size + 1 + 1) 3 i0 (.int .i64 0) 1 8 Try.underlying40 hi hz0 hz1 hz2 rfl (by decide) _ _ _ rfl (G3.out.alloc (.cells #[.int .i64 (z k 6)] 3)).rc ⟨_, 0, none⟩ 1 1 [.int .i64 (z k 6)] rfl rfl (newsM_new (cs := #[.int .i64 (z k 6)])) (by intro u hu; simp at hu; subst hu; rfl) (by unfold maxLen; omega) (by omega) (Nat.succ_le_of_lt (G3.out.alloc (.cells #[.int .i64 (z k 6)] 3)).o.lt) ?_; intro vc y3 hown hgrow _ hat; have G4 := Lib.hid (lr_c (G3.out.alloc (.cells #[.int .i64 (z k 6)] 3)) hown hgrow hat); have T4 := Lib.hid ((T3.out.alloc (.cells #[.int .i64 (z k 6)] 3)).grownR hgrow (fun g hg => by have := RB.out (.slice cA (tickL 6 z k).length cc) (by simp) g hg; omega)); clear G3 T3 hown hgrow hat; have t1 := T4.out.cell 1; have t5 := T4.out.cell 5; have t6 := T4.out.cell 6; have s0 := G4.out.s.cell 0; have s1 := G4.out.s.cell 1))
              go_roundg (n - (k + 1))
              case measure => omega
              case rel => exact ⟨k + 1, by omega, rfl, by go_num, by rw [EW2.out], by rw [EB2.out], Lib.hid (by rw [E5.out, E6.out]; exact G4.out)⟩
            · have h5 : z k 5 < q := hI.2
              have dI : (if p ≤ z k 5 ∧ z k 5 < q then (1 : Int) else 0) = 1 := by rw [if_pos hI]
              have eW : ofW p q z (k + 1) = ofW p q z k + (z k 5 - z k 1) := by rw [EW.out, if_pos ⟨hB, hI⟩]
              have eB : ofB p q z (k + 1) = ofB p q z k := by rw [EB.out, if_neg (by omega)]; simp
              have E5 := Lib.hid (tickL_yes hB)
              have E6 := Lib.hid (tickL_yes hC)
              have EW2 := Lib.hid eW
              have EB2 := Lib.hid eB
              clear eW eB EW EB
              go_wp2_with (first
                | (at_builtin; refine wpList_append_own_at _ rfl _ _ 40 rfl (w.heap.size + 1 + 1) 3 i0 (.int .i64 0) 1 8 Try.underlying40 hi hz0 hz1 hz2 rfl (by decide) _ _ _ rfl (G0.out.alloc (.cells #[.int .i64 (z k 1)] 3)).ra ⟨_, 0, none⟩ 1 1 [.int .i64 (z k 1)] rfl rfl (newsM_new2 (cs := #[.int .i64 (z k 1)])) (by intro u hu; simp at hu; subst hu; rfl) (by unfold maxLen; omega) (by omega) (Nat.succ_le_of_lt (G0.out.alloc (.cells #[.int .i64 (z k 1)] 3)).o.lt) ?_; intro va y0 hown hgrow _ hat; have G1 := Lib.hid (lr_a (G0.out.alloc (.cells #[.int .i64 (z k 1)] 3)) hown hgrow hat); have T1 := Lib.hid ((T0.out.alloc (.cells #[.int .i64 (z k 1)] 3)).grownR hgrow (fun g hg => by have := RB.out (.slice aA (arrL z k).length ac) (by simp) g hg; omega)); clear G0 T0 hown hgrow hat; have t1 := T1.out.cell 1; have t5 := T1.out.cell 5; have t6 := T1.out.cell 6; have s0 := G1.out.s.cell 0; have s1 := G1.out.s.cell 1)
                | (at_builtin; refine wpList_append_own_at _ rfl _ _ 40 rfl (w.heap.size + 1 + 1) 3 i0 (.int .i64 0) 1 8 Try.underlying40 hi hz0 hz1 hz2 rfl (by decide) _ _ _ rfl (G1.out.alloc (.cells #[.int .i64 (z k 5)] 3)).rb ⟨_, 0, none⟩ 1 1 [.int .i64 (z k 5)] rfl rfl (newsM_new (cs := #[.int .i64 (z k 5)])) (by intro u hu; simp at hu; subst hu; rfl) (by unfold maxLen; omega) (by omega) (Nat.succ_le_of_lt (G1.out.alloc (.cells #[.int .i64 (z k 5)] 3)).o.lt) ?_; intro vb y1 hown hgrow _ hat; have G2 := Lib.hid (lr_b (G1.out.alloc (.cells #[.int .i64 (z k 5)] 3)) hown hgrow hat); have T2 := Lib.hid ((T1.out.alloc (.cells #[.int .i64 (z k 5)] 3)).grownR hgrow (fun g hg => by have := RB.out (.slice bA (tickL 5 z k).length bc) (by simp) g hg; omega)); clear G1 T1 hown hgrow hat; have t1 := T2.out.cell 1; have t5 := T2.out.cell 5; have t6 := T2.out.cell 6; have s0 := G2.out.s.cell 0; have s1 := G2.out.s.cell 1; have u0 := (G2.out.alloc (.cells #[.int .i64 (z k 5)] 3)).s.cell 0; have u1 := (G2.out.alloc (.cells #[.int .i64 (z k 5)] 3)).s.cell 1))
              refine (WI.out _ _ _ (rd_one2 w5.out _)).mono ?_
              rintro e y2 ⟨rfl, hb⟩
              have G3 := Lib.hid ((G2.out.alloc (.cells #[.int .i64 (z k 5)] 3)).next hb)
              have T3 := Lib.hid ((T2.out.alloc (.cells #[.int .i64 (z k 5)] 3)).next hb)
              clear G2 T2 hb
              have t1 := T3.out.cell 1
              have t5 := T3.out.cell 5
              have t6 := T3.out.cell 6
              have s0 := G3.out.s.cell 0
              have s1 := G3.out.s.cell 1
              rw [dI]
              go_wp2_with (first
                | (at_builtin; refine wpList_append_own_at _ rfl _ _ 40 rfl (w.heap.size + 1 + 1) 3 i0 (.int .i64 0) 1 8 Try.underlying40 hi hz0 hz1 hz2 rfl (by decide) _ _ _ rfl (G3.out.alloc (.cells #[.int .i64 (z k 6)] 3)).rc ⟨_, 0, none⟩ 1 1 [.int .i64 (z k 6)] rfl rfl (newsM_new (cs := #[.int .i64 (z k 6)])) (by intro u hu; simp at hu; subst hu; rfl) (by unfold maxLen; omega) (by omega) (Nat.succ_le_of_lt (G3.out.alloc (.cells #[.int .i64 (z k 6)] 3)).o.lt) ?_; intro vc y3 hown hgrow _ hat; have G4 := Lib.hid (lr_c (G3.out.alloc (.cells #[.int .i64 (z k 6)] 3)) hown hgrow hat); have T4 := Lib.hid ((T3.out.alloc (.cells #[.int .i64 (z k 6)] 3)).grownR hgrow (fun g hg => by have := RB.out (.slice cA (tickL 6 z k).length cc) (by simp) g hg; omega)); clear G3 T3 hown hgrow hat; have t1 := T4.out.cell 1; have t5 := T4.out.cell 5; have t6 := T4.out.cell 6; have s0 := G4.out.s.cell 0; have s1 := G4.out.s.cell 1))
              go_roundg (n - (k + 1))
              case measure => omega
              case rel => exact ⟨k + 1, by omega, rfl, by go_num, by rw [EW2.out], by rw [EB2.out], Lib.hid (by rw [E5.out, E6.out]; exact G4.out)⟩
          · skip
            by_cases h1 : z k 1 < q
            · have h5 : z k 5 < q := hI.2
              have dI : (if p ≤ z k 5 ∧ z k 5 < q then (1 : Int) else 0) = 1 := by rw [if_pos hI]
              have eW : ofW p q z (k + 1) = ofW p q z k + (z k 5 - z k 1) := by rw [EW.out, if_pos ⟨hB, hI⟩]
              have eB : ofB p q z (k + 1) = ofB p q z k := by rw [EB.out, if_neg (by omega)]; simp
              have E5 := Lib.hid (tickL_yes hB)
              have E6 := Lib.hid (tickL_no hC)
              have EW2 := Lib.hid eW
              have EB2 := Lib.hid eB
              clear eW eB EW EB
              go_wp2_with (first
                | (at_builtin; refine wpList_append_own_at _ rfl _ _ 40 rfl (w.heap.size + 1 + 1) 3 i0 (.int .i64 0) 1 8 Try.underlying40 hi hz0 hz1 hz2 rfl (by decide) _ _ _ rfl (G0.out.alloc (.cells #[.int .i64 (z k 1)] 3)).ra ⟨_, 0, none⟩ 1 1 [.int .i64 (z k 1)] rfl rfl (newsM_new2 (cs := #[.int .i64 (z k 1)])) (by intro u hu; simp at hu; subst hu; rfl) (by unfold maxLen; omega) (by omega) (Nat.succ_le_of_lt (G0.out.alloc (.cells #[.int .i64 (z k 1)] 3)).o.lt) ?_; intro va y0 hown hgrow _ hat; have G1 := Lib.hid (lr_a (G0.out.alloc (.cells #[.int .i64 (z k 1)] 3)) hown hgrow hat); have T1 := Lib.hid ((T0.out.alloc (.cells #[.int .i64 (z k 1)] 3)).grownR hgrow (fun g hg => by have := RB.out (.slice aA (arrL z k).length ac) (by simp) g hg; omega)); clear G0 T0 hown hgrow hat; have t1 := T1.out.cell 1; have t5 := T1.out.cell 5; have t6 := T1.out.cell 6; have s0 := G1.out.s.cell 0; have s1 := G1.out.s.cell 1)
                | (at_builtin; refine wpList_append_own_at _ rfl _ _ 40 rfl (w.heap.size + 1 + 1) 3 i0 (.int .i64 0) 1 8 Try.underlying40 hi hz0 hz1 hz2 rfl (by decide) _ _ _ rfl (G1.out.alloc (.cells #[.int .i64 (z k 5)] 3)).rb ⟨_, 0, none⟩ 1 1 [.int .i64 (z k 5)] rfl rfl (newsM_new (cs := #[.int .i64 (z k 5)])) (by intro u hu; simp at hu; subst hu; rfl) (by unfold maxLen; omega) (by omega) (Nat.succ_le_of_lt (G1.out.alloc (.cells #[.int .i64 (z k 5)] 3)).o.lt) ?_; intro vb y1 hown hgrow _ hat; have G2 := Lib.hid (lr_b (G1.out.alloc (.cells #[.int .i64 (z k 5)] 3)) hown hgrow hat); have T2 := Lib.hid ((T1.out.alloc (.cells #[.int .i64 (z k 5)] 3)).grownR hgrow (fun g hg => by have := RB.out (.slice bA (tickL 5 z k).length bc) (by simp) g hg; omega)); clear G1 T1 hown hgrow hat; have t1 := T2.out.cell 1; have t5 := T2.out.cell 5; have t6 := T2.out.cell 6; have s0 := G2.out.s.cell 0; have s1 := G2.out.s.cell 1; have u0 := (G2.out.alloc (.cells #[.int .i64 (z k 5)] 3)).s.cell 0; have u1 := (G2.out.alloc (.cells #[.int .i64 (z k 5)] 3)).s.cell 1))
              refine (WI.out _ _ _ (rd_one2 w5.out _)).mono ?_
              rintro e y2 ⟨rfl, hb⟩
              have G3 := Lib.hid ((G2.out.alloc (.cells #[.int .i64 (z k 5)] 3)).next hb)
              have T3 := Lib.hid ((T2.out.alloc (.cells #[.int .i64 (z k 5)] 3)).next hb)
              clear G2 T2 hb
              have t1 := T3.out.cell 1
              have t5 := T3.out.cell 5
              have t6 := T3.out.cell 6
              have s0 := G3.out.s.cell 0
              have s1 := G3.out.s.cell 1
              rw [dI]
              go_wp2_with fail
              go_roundg (n - (k + 1))
              case measure => omega
              case rel => exact ⟨k + 1, by omega, rfl, by go_num, by rw [EW2.out], by rw [EB2.out], Lib.hid (by rw [E5.out, E6.out]; exact G3.out)⟩
            · have h5 : z k 5 < q := hI.2
              have dI : (if p ≤ z k 5 ∧ z k 5 < q then (1 : Int) else 0) = 1 := by rw [if_pos hI]
              have eW : ofW p q z (k + 1) = ofW p q z k + (z k 5 - z k 1) := by rw [EW.out, if_pos ⟨hB, hI⟩]
              have eB : ofB p q z (k + 1) = ofB p q z k := by rw [EB.out, if_neg (by omega)]; simp
              have E5 := Lib.hid (tickL_yes hB)
              have E6 := Lib.hid (tickL_no hC)
              have EW2 := Lib.hid eW
              have EB2 := Lib.hid eB
              clear eW eB EW EB
              go_wp2_with (first
                | (at_builtin; refine wpList_append_own_at _ rfl _ _ 40 rfl (w.heap.size + 1 + 1) 3 i0 (.int .i64 0) 1 8 Try.underlying40 hi hz0 hz1 hz2 rfl (by decide) _ _ _ rfl (G0.out.alloc (.cells #[.int .i64 (z k 1)] 3)).ra ⟨_, 0, none⟩ 1 1 [.int .i64 (z k 1)] rfl rfl (newsM_new2 (cs := #[.int .i64 (z k 1)])) (by intro u hu; simp at hu; subst hu; rfl) (by unfold maxLen; omega) (by omega) (Nat.succ_le_of_lt (G0.out.alloc (.cells #[.int .i64 (z k 1)] 3)).o.lt) ?_; intro va y0 hown hgrow _ hat; have G1 := Lib.hid (lr_a (G0.out.alloc (.cells #[.int .i64 (z k 1)] 3)) hown hgrow hat); have T1 := Lib.hid ((T0.out.alloc (.cells #[.int .i64 (z k 1)] 3)).grownR hgrow (fun g hg => by have := RB.out (.slice aA (arrL z k).length ac) (by simp) g hg; omega)); clear G0 T0 hown hgrow hat; have t1 := T1.out.cell 1; have t5 := T1.out.cell 5; have t6 := T1.out.cell 6; have s0 := G1.out.s.cell 0; have s1 := G1.out.s.cell 1)
                | (at_builtin; refine wpList_append_own_at _ rfl _ _ 40 rfl (w.heap.size + 1 + 1) 3 i0 (.int .i64 0) 1 8 Try.underlying40 hi hz0 hz1 hz2 rfl (by decide) _ _ _ rfl (G1.out.alloc (.cells #[.int .i64 (z k 5)] 3)).rb ⟨_, 0, none⟩ 1 1 [.int .i64 (z k 5)] rfl rfl (newsM_new (cs := #[.int .i64 (z k 5)])) (by intro u hu; simp at hu; subst hu; rfl) (by unfold maxLen; omega) (by omega) (Nat.succ_le_of_lt (G1.out.alloc (.cells #[.int .i64 (z k 5)] 3)).o.lt) ?_; intro vb y1 hown hgrow _ hat; have G2 := Lib.hid (lr_b (G1.out.alloc (.cells #[.int .i64 (z k 5)] 3)) hown hgrow hat); have T2 := Lib.hid ((T1.out.alloc (.cells #[.int .i64 (z k 5)] 3)).grownR hgrow (fun g hg => by have := RB.out (.slice bA (tickL 5 z k).length bc) (by simp) g hg; omega)); clear G1 T1 hown hgrow hat; have t1 := T2.out.cell 1; have t5 := T2.out.cell 5; have t6 := T2.out.cell 6; have s0 := G2.out.s.cell 0; have s1 := G2.out.s.cell 1; have u0 := (G2.out.alloc (.cells #[.int .i64 (z k 5)] 3)).s.cell 0; have u1 := (G2.out.alloc (.cells #[.int .i64 (z k 5)] 3)).s.cell 1))
              refine (WI.out _ _ _ (rd_one2 w5.out _)).mono ?_
              rintro e y2 ⟨rfl, hb⟩
              have G3 := Lib.hid ((G2.out.alloc (.cells #[.int .i64 (z k 5)] 3)).next hb)
              have T3 := Lib.hid ((T2.out.alloc (.cells #[.int .i64 (z k 5)] 3)).next hb)
              clear G2 T2 hb
              have t1 := T3.out.cell 1
              have t5 := T3.out.cell 5
              have t6 := T3.out.cell 6
              have s0 := G3.out.s.cell 0
              have s1 := G3.out.s.cell 1
              rw [dI]
              go_wp2_with fail
              go_roundg (n - (k + 1))
              case measure => omega
              case rel => exact ⟨k + 1, by omega, rfl, by go_num, by rw [EW2.out], by rw [EB2.out], Lib.hid (by rw [E5.out, E6.out]; exact G3.out)⟩
        · by_cases hC : 0 ≤ z k 6
          · skip
            by_cases h1 : z k 1 < q
            · by_cases h5 : z k 5 < q
              · skip
                have dI : (if p ≤ z k 5 ∧ z k 5 < q then (1 : Int) else 0) = 0 := by rw [if_neg hI]
                have eW : ofW p q z (k + 1) = ofW p q z k := by rw [EW.out, if_neg (by omega)]; simp
                have eB : ofB p q z (k + 1) = ofB p q z k := by rw [EB.out, if_neg (by omega)]; simp
                have E5 := Lib.hid (tickL_yes hB)
                have E6 := Lib.hid (tickL_yes hC)
                have EW2 := Lib.hid eW
                have EB2 := Lib.hid eB
                clear eW eB EW EB
                go_wp2_with (first
                  | (at_builtin; refine wpList_append_own_at _ rfl _ _ 40 rfl (w.heap.size + 1 + 1) 3 i0 (.int .i64 0) 1 8 Try.underlying40 hi hz0 hz1 hz2 rfl (by decide) _ _ _ rfl (G0.out.alloc (.cells #[.int .i64 (z k 1)] 3)).ra ⟨_, 0, none⟩ 1 1 [.int .i64 (z k 1)] rfl rfl (newsM_new2 (cs := #[.int .i64 (z k 1)])) (by intro u hu; simp at hu; subst hu; rfl) (by unfold maxLen; omega) (by omega) (Nat.succ_le_of_lt (G0.out.alloc (.cells #[.int .i64 (z k 1)] 3)).o.lt) ?_; intro va y0 hown hgrow _ hat; have G1 := Lib.hid (lr_a (G0.out.alloc (.cells #[.int .i64 (z k 1)] 3)) hown hgrow hat); have T1 := Lib.hid ((T0.out.alloc (.cells #[.int .i64 (z k 1)] 3)).grownR hgrow (fun g hg => by have := RB.out (.slice aA (arrL z k).length ac) (by simp) g hg; omega)); clear G0 T0 hown hgrow hat; have t1 := T1.out.cell 1; have t5 := T1.out.cell 5; have t6 := T1.out.cell 6; have s0 := G1.out.s.cell 0; have s1 := G1.out.s.cell 1)
                  | (at_builtin; refine wpList_append_own_at _ rfl _ _ 40 rfl (w.heap.size + 1 + 1) 3 i0 (.int .i64 0) 1 8 Try.underlying40 hi hz0 hz1 hz2 rfl (by decide) _ _ _ rfl (G1.out.alloc (.cells #[.int .i64 (z k 5)] 3)).rb ⟨_, 0, none⟩ 1 1 [.int .i64 (z k 5)] rfl rfl (newsM_new (cs := #[.int .i64 (z k 5)])) (by intro u hu; simp at hu; subst hu; rfl) (by unfold maxLen; omega) (by omega) (Nat.succ_le_of_lt (G1.out.alloc (.cells #[.int .i64 (z k 5)] 3)).o.lt) ?_; intro vb y1 hown hgrow _ hat; have G2 := Lib.hid (lr_b (G1.out.alloc (.cells #[.int .i64 (z k 5)] 3)) hown hgrow hat); have T2 := Lib.hid ((T1.out.alloc (.cells #[.int .i64 (z k 5)] 3)).grownR hgrow (fun g hg => by have := RB.out (.slice bA (tickL 5 z k).length bc) (by simp) g hg; omega)); clear G1 T1 hown hgrow hat; have t1 := T2.out.cell 1; have t5 := T2.out.cell 5; have t6 := T2.out.cell 6; have s0 := G2.out.s.cell 0; have s1 := G2.out.s.cell 1; have u0 := (G2.out.alloc (.cells #[.int .i64 (z k 5)] 3)).s.cell 0; have u1 := (G2.out.alloc (.cells #[.int .i64 (z k 5)] 3)).s.cell 1))
                refine (WI.out _ _ _ (rd_one2 w5.out _)).mono ?_
                rintro e y2 ⟨rfl, hb⟩
                have G3 := Lib.hid ((G2.out.alloc (.cells #[.int .i64 (z k 5)] 3)).next hb)
                have T3 := Lib.hid ((T2.out.alloc (.cells #[.int .i64 (z k 5)] 3)).next hb)
                clear G2 T2 hb
                have t1 := T3.out.cell 1
                have t5 := T3.out.cell 5
                have t6 := T3.out.cell 6
                have s0 := G3.out.s.cell 0
                have s1 := G3.out.s.cell 1
                rw [dI]
                go_wp2_with (first
                  | (at_builtin; refine wpList_append_own_at _ rfl _ _ 40 rfl (w.heap.size + 1 + 1) 3 i0 (.int .i64 0) 1 8 Try.underlying40 hi hz0 hz1 hz2 rfl (by decide) _ _ _ rfl (G3.out.alloc (.cells #[.int .i64 (z k 6)] 3)).rc ⟨_, 0, none⟩ 1 1 [.int .i64 (z k 6)] rfl rfl (newsM_new (cs := #[.int .i64 (z k 6)])) (by intro u hu; simp at hu; subst hu; rfl) (by unfold maxLen; omega) (by omega) (Nat.succ_le_of_lt (G3.out.alloc (.cells #[.int .i64 (z k 6)] 3)).o.lt) ?_; intro vc y3 hown hgrow _ hat; have G4 := Lib.hid (lr_c (G3.out.alloc (.cells #[.int .i64 (z k 6)] 3)) hown hgrow hat); have T4 := Lib.hid ((T3.out.alloc (.cells #[.int .i64 (z k 6)] 3)).grownR hgrow (fun g hg => by have := RB.out (.slice cA (tickL 6 z k).length cc) (by simp) g hg; omega)); clear G3 T3 hown hgrow hat; have t1 := T4.out.cell 1; have t5 := T4.out.cell 5; have t6 := T4.out.cell 6; have s0 := G4.out.s.cell 0; have s1 := G4.out.s.cell 1))
                go_roundg (n - (k + 1))
                case measure => omega
                case rel => exact ⟨k + 1, by omega, rfl, by go_num, by rw [EW2.out], by rw [EB2.out], Lib.hid (by rw [E5.out, E6.out]; exact G4.out)⟩
              · have d5 := decide_eq_false h5
                have dI : (if p ≤ z k 5 ∧ z k 5 < q then (1 : Int) else 0) = 0 := by rw [if_neg hI]
                have eW : ofW p q z (k + 1) = ofW p q z k := by rw [EW.out, if_neg (by omega)]; simp
                have eB : ofB p q z (k + 1) = ofB p q z k + 1 := by rw [EB.out, if_pos (by omega)]
                have E5 := Lib.hid (tickL_yes hB)
                have E6 := Lib.hid (tickL_yes hC)
                have EW2 := Lib.hid eW
                have EB2 := Lib.hid eB
                clear eW eB EW EB
                go_wp2_with (first
                  | (at_builtin; refine wpList_append_own_at _ rfl _ _ 40 rfl (w.heap.size + 1 + 1) 3 i0 (.int .i64 0) 1 8 Try.underlying40 hi hz0 hz1 hz2 rfl (by decide) _ _ _ rfl (G0.out.alloc (.cells #[.int .i64 (z k 1)] 3)).ra ⟨_, 0, none⟩ 1 1 [.int .i64 (z k 1)] rfl rfl (newsM_new2 (cs := #[.int .i64 (z k 1)])) (by intro u hu; simp at hu; subst hu; rfl) (by unfold maxLen; omega) (by omega) (Nat.succ_le_of_lt (G0.out.alloc (.cells #[.int .i64 (z k 1)] 3)).o.lt) ?_; intro va y0 hown hgrow _ hat; have G1 := Lib.hid (lr_a (G0.out.alloc (.cells #[.int .i64 (z k 1)] 3)) hown hgrow hat); have T1 := Lib.hid ((T0.out.alloc (.cells #[.int .i64 (z k 1)] 3)).grownR hgrow (fun g hg => by have := RB.out (.slice aA (arrL z k).length ac) (by simp) g hg; omega)); clear G0 T0 hown hgrow hat; have t1 := T1.out.cell 1; have t5 := T1.out.cell 5; have t6 := T1.out.cell 6; have s0 := G1.out.s.cell 0; have s1 := G1.out.s.cell 1)
                  | (at_builtin; refine wpList_append_own_at _ rfl _ _ 40 rfl (w.heap.size + 1 + 1) 3 i0 (.int .i64 0) 1 8 Try.underlying40 hi hz0 hz1 hz2 rfl (by decide) _ _ _ rfl (G1.out.alloc (.cells #[.int .i64 (z k 5)] 3)).rb ⟨_, 0, none⟩ 1 1 [.int .i64 (z k 5)] rfl rfl (newsM_new (cs := #[.int .i64 (z k 5)])) (by intro u hu; simp at hu; subst hu; rfl) (by unfold maxLen; omega) (by omega) (Nat.succ_le_of_lt (G1.out.alloc (.cells #[.int .i64 (z k 5)] 3)).o.lt) ?_; intro vb y1 hown hgrow _ hat; have G2 := Lib.hid (lr_b (G1.out.alloc (.cells #[.int .i64 (z k 5)] 3)) hown hgrow hat); have T2 := Lib.hid ((T1.out.alloc (.cells #[.int .i64 (z k 5)] 3)).grownR hgrow (fun g hg => by have := RB.out (.slice bA (tickL 5 z k).length bc) (by simp) g hg; omega)); clear G1 T1 hown hgrow hat; have t1 := T2.out.cell 1; have t5 := T2.out.cell 5; have t6 := T2.out.cell 6; have s0 := G2.out.s.cell 0; have s1 := G2.out.s.cell 1; have u0 := (G2.out.alloc (.cells #[.int .i64 (z k 5)] 3)).s.cell 0; have u1 := (G2.out.alloc (.cells #[.int .i64 (z k 5)] 3)).s.cell 1))
                refine (WI.out _ _ _ (rd_one2 w5.out _)).mono ?_
                rintro e y2 ⟨rfl, hb⟩
                have G3 := Lib.hid ((G2.out.alloc (.cells #[.int .i64 (z k 5)] 3)).next hb)
                have T3 := Lib.hid ((T2.out.alloc (.cells #[.int .i64 (z k 5)] 3)).next hb)
                clear G2 T2 hb
                have t1 := T3.out.cell 1
                have t5 := T3.out.cell 5
                have t6 := T3.out.cell 6
                have s0 := G3.out.s.cell 0
                have s1 := G3.out.s.cell 1
                rw [dI]
                go_wp2_with (first
                  | (at_builtin; refine wpList_append_own_at _ rfl _ _ 40 rfl (w.heap.size + 1 + 1) 3 i0 (.int .i64 0) 1 8 Try.underlying40 hi hz0 hz1 hz2 rfl (by decide) _ _ _ rfl (G3.out.alloc (.cells #[.int .i64 (z k 6)] 3)).rc ⟨_, 0, none⟩ 1 1 [.int .i64 (z k 6)] rfl rfl (newsM_new (cs := #[.int .i64 (z k 6)])) (by intro u hu; simp at hu; subst hu; rfl) (by unfold maxLen; omega) (by omega) (Nat.succ_le_of_lt (G3.out.alloc (.cells #[.int .i64 (z k 6)] 3)).o.lt) ?_; intro vc y3 hown hgrow _ hat; have G4 := Lib.hid (lr_c (G3.out.alloc (.cells #[.int .i64 (z k 6)] 3)) hown hgrow hat); have T4 := Lib.hid ((T3.out.alloc (.cells #[.int .i64 (z k 6)] 3)).grownR hgrow (fun g hg => by have := RB.out (.slice cA (tickL 6 z k).length cc) (by simp) g hg; omega)); clear G3 T3 hown hgrow hat; have t1 := T4.out.cell 1; have t5 := T4.out.cell 5; have t6 := T4.out.cell 6; have s0 := G4.out.s.cell 0; have s1 := G4.out.s.cell 1))
                go_roundg (n - (k + 1))
                case measure => omega
                case rel => exact ⟨k + 1, by omega, rfl, by go_num, by rw [EW2.out], by rw [EB2.out], Lib.hid (by rw [E5.out, E6.out]; exact G4.out)⟩
            · by_cases h5 : z k 5 < q
              · skip
                have dI : (if p ≤ z k 5 ∧ z k 5 < q then (1 : Int) else 0) = 0 := by rw [if_neg hI]
                have eW : ofW p q z (k + 1) = ofW p q z k := by rw [EW.out, if_neg (by omega)]; simp
                have eB : ofB p q z (k + 1) = ofB p q z k := by rw [EB.out, if_neg (by omega)]; simp
                have E5 := Lib.hid (tickL_yes hB)
                have E6 := Lib.hid (tickL_yes hC)
                have EW2 := Lib.hid eW
                have EB2 := Lib.hid eB
                clear eW eB EW EB
                go_wp2_with (first
                  | (at_builtin; refine wpList_append_own_at _ rfl _ _ 40 rfl (w.heap.size + 1 + 1) 3 i0 (.int .i64 0) 1 8 Try.underlying40 hi hz0 hz1 hz2 rfl (by decide) _ _ _ rfl (G0.out.alloc (.cells #[.int .i64 (z k 1)] 3)).ra ⟨_, 0, none⟩ 1 1 [.int .i64 (z k 1)] rfl rfl (newsM_new2 (cs := #[.int .i64 (z k 1)])) (by intro u hu; simp at hu; subst hu; rfl) (by unfold maxLen; omega) (by omega) (Nat.succ_le_of_lt (G0.out.alloc (.cells #[.int .i64 (z k 1)] 3)).o.lt) ?_; intro va y0 hown hgrow _ hat; have G1 := Lib.hid (lr_a (G0.out.alloc (.cells #[.int .i64 (z k 1)] 3)) hown hgrow hat); have T1 := Lib.hid ((T0.out.alloc (.cells #[.int .i64 (z k 1)] 3)).grownR hgrow (fun g hg => by have := RB.out (.slice aA (arrL z k).length ac) (by simp) g hg; omega)); clear G0 T0 hown hgrow hat; have t1 := T1.out.cell 1; have t5 := T1.out.cell 5; have t6 := T1.out.cell 6; have s0 := G1.out.s.cell 0; have s1 := G1.out.s.cell 1)
                  | (at_builtin; refine wpList_append_own_at _ rfl _ _ 40 rfl (w.heap.size + 1 + 1) 3 i0 (.int .i64 0) 1 8 Try.underlying40 hi hz0 hz1 hz2 rfl (by decide) _ _ _ rfl (G1.out.alloc (.cells #[.int .i64 (z k 5)] 3)).rb ⟨_, 0, none⟩ 1 1 [.int .i64 (z k 5)] rfl rfl (newsM_new (cs := #[.int .i64 (z k 5)])) (by intro u hu; simp at hu; subst hu; rfl) (by unfold maxLen; omega) (by omega) (Nat.succ_le_of_lt (G1.out.alloc (.cells #[.int .i64 (z k 5)] 3)).o.lt) ?_; intro vb y1 hown hgrow _ hat; have G2 := Lib.hid (lr_b (G1.out.alloc (.cells #[.int .i64 (z k 5)] 3)) hown hgrow hat); have T2 := Lib.hid ((T1.out.alloc (.cells #[.int .i64 (z k 5)] 3)).grownR hgrow (fun g hg => by have := RB.out (.slice bA (tickL 5 z k).length bc) (by simp) g hg; omega)); clear G1 T1 hown hgrow hat; have t1 := T2.out.cell 1; have t5 := T2.out.cell 5; have t6 := T2.out.cell 6; have s0 := G2.out.s.cell 0; have s1 := G2.out.s.cell 1; have u0 := (G2.out.alloc (.cells #[.int .i64 (z k 5)] 3)).s.cell 0; have u1 := (G2.out.alloc (.cells #[.int .i64 (z k 5)] 3)).s.cell 1))
                refine (WI.out _ _ _ (rd_one2 w5.out _)).mono ?_
                rintro e y2 ⟨rfl, hb⟩
                have G3 := Lib.hid ((G2.out.alloc (.cells #[.int .i64 (z k 5)] 3)).next hb)
                have T3 := Lib.hid ((T2.out.alloc (.cells #[.int .i64 (z k 5)] 3)).next hb)
                clear G2 T2 hb
                have t1 := T3.out.cell 1
                have t5 := T3.out.cell 5
                have t6 := T3.out.cell 6
                have s0 := G3.out.s.cell 0
                have s1 := G3.out.s.cell 1
                rw [dI]
                go_wp2_with (first
                  | (at_builtin; refine wpList_append_own_at _ rfl _ _ 40 rfl (w.heap.size + 1 + 1) 3 i0 (.int .i64 0) 1 8 Try.underlying40 hi hz0 hz1 hz2 rfl (by decide) _ _ _ rfl (G3.out.alloc (.cells #[.int .i64 (z k 6)] 3)).rc ⟨_, 0, none⟩ 1 1 [.int .i64 (z k 6)] rfl rfl (newsM_new (cs := #[.int .i64 (z k 6)])) (by intro u hu; simp at hu; subst hu; rfl) (by unfold maxLen; omega) (by omega) (Nat.succ_le_of_lt (G3.out.alloc (.cells #[.int .i64 (z k 6)] 3)).o.lt) ?_; intro vc y3 hown hgrow _ hat; have G4 := Lib.hid (lr_c (G3.out.alloc (.cells #[.int .i64 (z k 6)] 3)) hown hgrow hat); have T4 := Lib.hid ((T3.out.alloc (.cells #[.int .i64 (z k 6)] 3)).grownR hgrow (fun g hg => by have := RB.out (.slice cA (tickL 6 z k).length cc) (by simp) g hg; omega)); clear G3 T3 hown hgrow hat; have t1 := T4.out.cell 1; have t5 := T4.out.cell 5; have t6 := T4.out.cell 6; have s0 := G4.out.s.cell 0; have s1 := G4.out.s.cell 1))
                go_roundg (n - (k + 1))
                case measure => omega
                case rel => exact ⟨k + 1, by omega, rfl, by go_num, by rw [EW2.out], by rw [EB2.out], Lib.hid (by rw [E5.out, E6.out]; exact G4.out)⟩
              · have d5 := decide_eq_false h5
                have dI : (if p ≤ z k 5 ∧ z k 5 < q then (1 : Int) else 0) = 0 := by rw [if_neg hI]
                have eW : ofW p q z (k + 1) = ofW p q z k := by rw [EW.out, if_neg (by omega)]; simp
                have eB : ofB p q z (k + 1) = ofB p q z k := by rw [EB.out, if_neg (by omega)]; simp
                have E5 := Lib.hid (tickL_yes hB)
                have E6 := Lib.hid (tickL_yes hC)
                have EW2 := Lib.hid eW
                have EB2 := Lib.hid eB
                clear eW eB EW EB
                go_wp2_with (first
                  | (at_builtin; refine wpList_append_own_at _ rfl _ _ 40 rfl (w.heap.size + 1 + 1) 3 i0 (.int .i64 0) 1 8 Try.underlying40 hi hz0 hz1 hz2 rfl (by decide) _ _ _ rfl (G0.out.alloc (.cells #[.int .i64 (z k 1)] 3)).ra ⟨_, 0, none⟩ 1 1 [.int .i64 (z k 1)] rfl rfl (newsM_new2 (cs := #[.int .i64 (z k 1)])) (by intro u hu; simp at hu; subst hu; rfl) (by unfold maxLen; omega) (by omega) (Nat.succ_le_of_lt (G0.out.alloc (.cells #[.int .i64 (z k 1)] 3)).o.lt) ?_; intro va y0 hown hgrow _ hat; have G1 := Lib.hid (lr_a (G0.out.alloc (.cells #[.int .i64 (z k 1)] 3)) hown hgrow hat); have T1 := Lib.hid ((T0.out.alloc (.cells #[.int .i64 (z k 1)] 3)).grownR hgrow (fun g hg => by have := RB.out (.slice aA (arrL z k).length ac) (by simp) g hg; omega)); clear G0 T0 hown hgrow hat; have t1 := T1.out.cell 1; have t5 := T1.out.cell 5; have t6 := T1.out.cell 6; have s0 := G1.out.s.cell 0; have s1 := G1.out.s.cell 1)
                  | (at_builtin; refine wpList_append_own_at _ rfl _ _ 40 rfl (w.heap.size + 1 + 1) 3 i0 (.int .i64 0) 1 8 Try.underlying40 hi hz0 hz1 hz2 rfl (by decide) _ _ _ rfl (G1.out.alloc (.cells #[.int .i64 (z k 5)] 3)).rb ⟨_, 0, none⟩ 1 1 [.int .i64 (z k 5)] rfl rfl (newsM_new (cs := #[.int .i64 (z k 5)])) (by intro u hu; simp at hu; subst hu; rfl) (by unfold maxLen; omega) (by omega) (Nat.succ_le_of_lt (G1.out.alloc (.cells #[.int .i64 (z k 5)] 3)).o.lt) ?_; intro vb y1 hown hgrow _ hat; have G2 := Lib.hid (lr_b (G1.out.alloc (.cells #[.int .i64 (z k 5)] 3)) hown hgrow hat); have T2 := Lib.hid ((T1.out.alloc (.cells #[.int .i64 (z k 5)] 3)).grownR hgrow (fun g hg => by have := RB.out (.slice bA (tickL 5 z k).length bc) (by simp) g hg; omega)); clear G1 T1 hown hgrow hat; have t1 := T2.out.cell 1; have t5 := T2.out.cell 5; have t6 := T2.out.cell 6; have s0 := G2.out.s.cell 0; have s1 := G2.out.s.cell 1; have u0 := (G2.out.alloc (.cells #[.int .i64 (z k 5)] 3)).s.cell 0; have u1 := (G2.out.alloc (.cells #[.int .i64 (z k 5)] 3)).s.cell 1))
                refine (WI.out _ _ _ (rd_one2 w5.out _)).mono ?_
                rintro e y2 ⟨rfl, hb⟩
                have G3 := Lib.hid ((G2.out.alloc (.cells #[.int .i64 (z k 5)] 3)).next hb)
                have T3 := Lib.hid ((T2.out.alloc (.cells #[.int .i64 (z k 5)] 3)).next hb)
                clear G2 T2 hb
                have t1 := T3.out.cell 1
                have t5 := T3.out.cell 5
                have t6 := T3.out.cell 6
                have s0 := G3.out.s.cell 0
                have s1 := G3.out.s.cell 1
                rw [dI]
                go_wp2_with (first
                  | (at_builtin; refine wpList_append_own_at _ rfl _ _ 40 rfl (w.heap.size + 1 + 1) 3 i0 (.int .i64 0) 1 8 Try.underlying40 hi hz0 hz1 hz2 rfl (by decide) _ _ _ rfl (G3.out.alloc (.cells #[.int .i64 (z k 6)] 3)).rc ⟨_, 0, none⟩ 1 1 [.int .i64 (z k 6)] rfl rfl (newsM_new (cs := #[.int .i64 (z k 6)])) (by intro u hu; simp at hu; subst hu; rfl) (by unfold maxLen; omega) (by omega) (Nat.succ_le_of_lt (G3.out.alloc (.cells #[.int .i64 (z k 6)] 3)).o.lt) ?_; intro vc y3 hown hgrow _ hat; have G4 := Lib.hid (lr_c (G3.out.alloc (.cells #[.int .i64 (z k 6)] 3)) hown hgrow hat); have T4 := Lib.hid ((T3.out.alloc (.cells #[.int .i64 (z k 6)] 3)).grownR hgrow (fun g hg => by have := RB.out (.slice cA (tickL 6 z k).length cc) (by simp) g hg; omega)); clear G3 T3 hown hgrow hat; have t1 := T4.out.cell 1; have t5 := T4.out.cell 5; have t6 := T4.out.cell 6; have s0 := G4.out.s.cell 0; have s1 := G4.out.s.cell 1))
                go_roundg (n - (k + 1))
                case measure => omega
                case rel => exact ⟨k + 1, by omega, rfl, by go_num, by rw [EW2.out], by rw [EB2.out], Lib.hid (by rw [E5.out, E6.out]; exact G4.out)⟩
          · skip
            by_cases h1 : z k 1 < q
            · by_cases h5 : z k 5 < q
              · skip
                have dI : (if p ≤ z k 5 ∧ z k 5 < q then (1 : Int) else 0) = 0 := by rw [if_neg hI]
                have eW : ofW p q z (k + 1) = ofW p q z k := by rw [EW.out, if_neg (by omega)]; simp
                have eB : ofB p q z (k + 1) = ofB p q z k := by rw [EB.out, if_neg (by omega)]; simp
                have E5 := Lib.hid (tickL_yes hB)
                have E6 := Lib.hid (tickL_no hC)
                have EW2 := Lib.hid eW
                have EB2 := Lib.hid eB
                clear eW eB EW EB
                go_wp2_with (first
                  | (at_builtin; refine wpList_append_own_at _ rfl _ _ 40 rfl (w.heap.size + 1 + 1) 3 i0 (.int .i64 0) 1 8 Try.underlying40 hi hz0 hz1 hz2 rfl (by decide) _ _ _ rfl (G0.out.alloc (.cells #[.int .i64 (z k 1)] 3)).ra ⟨_, 0, none⟩ 1 1 [.int .i64 (z k 1)] rfl rfl (newsM_new2 (cs := #[.int .i64 (z k 1)])) (by intro u hu; simp at hu; subst hu; rfl) (by unfold maxLen; omega) (by omega) (Nat.succ_le_of_lt (G0.out.alloc (.cells #[.int .i64 (z k 1)] 3)).o.lt) ?_; intro va y0 hown hgrow _ hat; have G1 := Lib.hid (lr_a (G0.out.alloc (.cells #[.int .i64 (z k 1)] 3)) hown hgrow hat); have T1 := Lib.hid ((T0.out.alloc (.cells #[.int .i64 (z k 1)] 3)).grownR hgrow (fun g hg => by have := RB.out (.slice aA (arrL z k).length ac) (by simp) g hg; omega)); clear G0 T0 hown hgrow hat; have t1 := T1.out.cell 1; have t5 := T1.out.cell 5; have t6 := T1.out.cell 6; have s0 := G1.out.s.cell 0; have s1 := G1.out.s.cell 1)
                  | (at_builtin; refine wpList_append_own_at _ rfl _ _ 40 rfl (w.heap.size + 1 + 1) 3 i0 (.int .i64 0) 1 8 Try.underlying40 hi hz0 hz1 hz2 rfl (by decide) _ _ _ rfl (G1.out.alloc (.cells #[.int .i64 (z k 5)] 3)).rb ⟨_, 0, none⟩ 1 1 [.int .i64 (z k 5)] rfl rfl (newsM_new (cs := #[.int .i64 (z k 5)])) (by intro u hu; simp at hu; subst hu; rfl) (by unfold maxLen; omega) (by omega) (Nat.succ_le_of_lt (G1.out.alloc (.cells #[.int .i64 (z k 5)] 3)).o.lt) ?_; intro vb y1 hown hgrow _ hat; have G2 := Lib.hid (lr_b (G1.out.alloc (.cells #[.int .i64 (z k 5)] 3)) hown hgrow hat); have T2 := Lib.hid ((T1.out.alloc (.cells #[.int .i64 (z k 5)] 3)).grownR hgrow (fun g hg => by have := RB.out (.slice bA (tickL 5 z k).length bc) (by simp) g hg; omega)); clear G1 T1 hown hgrow hat; have t1 := T2.out.cell 1; have t5 := T2.out.cell 5; have t6 := T2.out.cell 6; have s0 := G2.out.s.cell 0; have s1 := G2.out.s.cell 1; have u0 := (G2.out.alloc (.cells #[.int .i64 (z k 5)] 3)).s.cell 0; have u1 := (G2.out.alloc (.cells #[.int .i64 (z k 5)] 3)).s.cell 1))
                refine (WI.out _ _ _ (rd_one2 w5.out _)).mono ?_
                rintro e y2 ⟨rfl, hb⟩
                have G3 := Lib.hid ((G2.out.alloc (.cells #[.int .i64 (z k 5)] 3)).next hb)
                have T3 := Lib.hid ((T2.out.alloc (.cells #[.int .i64 (z k 5)] 3)).next hb)
                clear G2 T2 hb
                have t1 := T3.out.cell 1
                have t5 := T3.out.cell 5
                have t6 := T3.out.cell 6
                have s0 := G3.out.s.cell 0
                have s1 := G3.out.s.cell 1
                rw [dI]
                go_wp2_with fail
                go_roundg (n - (k + 1))
                case measure => omega
                case rel => exact ⟨k + 1, by omega, rfl, by go_num, by rw [EW2.out], by rw [EB2.out], Lib.hid (by rw [E5.out, E6.out]; exact G3.out)⟩
              · have d5 := decide_eq_false h5
                have dI : (if p ≤ z k 5 ∧ z k 5 < q then (1 : Int) else 0) = 0 := by rw [if_neg hI]
                have eW : ofW p q z (k + 1) = ofW p q z k := by rw [EW.out, if_neg (by omega)]; simp
                have eB : ofB p q z (k + 1) = ofB p q z k + 1 := by rw [EB.out, if_pos (by omega)]
                have E5 := Lib.hid (tickL_yes hB)
                have E6 := Lib.hid (tickL_no hC)
                have EW2 := Lib.hid eW
                have EB2 := Lib.hid eB
                clear eW eB EW EB
                go_wp2_with (first
                  | (at_builtin; refine wpList_append_own_at _ rfl _ _ 40 rfl (w.heap.size + 1 + 1) 3 i0 (.int .i64 0) 1 8 Try.underlying40 hi hz0 hz1 hz2 rfl (by decide) _ _ _ rfl (G0.out.alloc (.cells #[.int .i64 (z k 1)] 3)).ra ⟨_, 0, none⟩ 1 1 [.int .i64 (z k 1)] rfl rfl (newsM_new2 (cs := #[.int .i64 (z k 1)])) (by intro u hu; simp at hu; subst hu; rfl) (by unfold maxLen; omega) (by omega) (Nat.succ_le_of_lt (G0.out.alloc (.cells #[.int .i64 (z k 1)] 3)).o.lt) ?_; intro va y0 hown hgrow _ hat; have G1 := Lib.hid (lr_a (G0.out.alloc (.cells #[.int .i64 (z k 1)] 3)) hown hgrow hat); have T1 := Lib.hid ((T0.out.alloc (.cells #[.int .i64 (z k 1)] 3)).grownR hgrow (fun g hg => by have := RB.out (.slice aA (arrL z k).length ac) (by simp) g hg; omega)); clear G0 T0 hown hgrow hat; have t1 := T1.out.cell 1; have t5 := T1.out.cell 5; have t6 := T1.out.cell 6; have s0 := G1.out.s.cell 0; have s1 := G1.out.s.cell 1)
                  | (at_builtin; refine wpList_append_own_at _ rfl _ _ 40 rfl (w.heap.size + 1 + 1) 3 i0 (.int .i64 0) 1 8 Try.underlying40 hi hz0 hz1 hz2 rfl (by decide) _ _ _ rfl (G1.out.alloc (.cells #[.int .i64 (z k 5)] 3)).rb ⟨_, 0, none⟩ 1 1 [.int .i64 (z k 5)] rfl rfl (newsM_new (cs := #[.int .i64 (z k 5)])) (by intro u hu; simp at hu; subst hu; rfl) (by unfold maxLen; omega) (by omega) (Nat.succ_le_of_lt (G1.out.alloc (.cells #[.int .i64 (z k 5)] 3)).o.lt) ?_; intro vb y1 hown hgrow _ hat; have G2 := Lib.hid (lr_b (G1.out.alloc (.cells #[.int .i64 (z k 5)] 3)) hown hgrow hat); have T2 := Lib.hid ((T1.out.alloc (.cells #[.int .i64 (z k 5)] 3)).grownR hgrow (fun g hg => by have := RB.out (.slice bA (tickL 5 z k).length bc) (by simp) g hg; omega)); clear G1 T1 hown hgrow hat; have t1 := T2.out.cell 1; have t5 := T2.out.cell 5; have t6 := T2.out.cell 6; have s0 := G2.out.s.cell 0; have s1 := G2.out.s.cell 1; have u0 := (G2.out.alloc (.cells #[.int .i64 (z k 5)] 3)).s.cell 0; have u1 := (G2.out.alloc (.cells #[.int .i64 (z k 5)] 3)).s.cell 1))
                refine (WI.out _ _ _ (rd_one2 w5.out _)).mono ?_
                rintro e y2 ⟨rfl, hb⟩
                have G3 := Lib.hid ((G2.out.alloc (.cells #[.int .i64 (z k 5)] 3)).next hb)
                have T3 := Lib.hid ((T2.out.alloc (.cells #[.int .i64 (z k 5)] 3)).next hb)
                clear G2 T2 hb
                have t1 := T3.out.cell 1
                have t5 := T3.out.cell 5
                have t6 := T3.out.cell 6
                have s0 := G3.out.s.cell 0
                have s1 := G3.out.s.cell 1
                rw [dI]
                go_wp2_with fail
                go_roundg (n - (k + 1))
                case measure => omega
                case rel => exact ⟨k + 1, by omega, rfl, by go_num, by rw [EW2.out], by rw [EB2.out], Lib.hid (by rw [E5.out, E6.out]; exact G3.out)⟩
            · by_cases h5 : z k 5 < q
              · skip
                have dI : (if p ≤ z k 5 ∧ z k 5 < q then (1 : Int) else 0) = 0 := by rw [if_neg hI]
                have eW : ofW p q z (k + 1) = ofW p q z k := by rw [EW.out, if_neg (by omega)]; simp
                have eB : ofB p q z (k + 1) = ofB p q z k := by rw [EB.out, if_neg (by omega)]; simp
                have E5 := Lib.hid (tickL_yes hB)
                have E6 := Lib.hid (tickL_no hC)
                have EW2 := Lib.hid eW
                have EB2 := Lib.hid eB
                clear eW eB EW EB
                go_wp2_with (first
                  | (at_builtin; refine wpList_append_own_at _ rfl _ _ 40 rfl (w.heap.size + 1 + 1) 3 i0 (.int .i64 0) 1 8 Try.underlying40 hi hz0 hz1 hz2 rfl (by decide) _ _ _ rfl (G0.out.alloc (.cells #[.int .i64 (z k 1)] 3)).ra ⟨_, 0, none⟩ 1 1 [.int .i64 (z k 1)] rfl rfl (newsM_new2 (cs := #[.int .i64 (z k 1)])) (by intro u hu; simp at hu; subst hu; rfl) (by unfold maxLen; omega) (by omega) (Nat.succ_le_of_lt (G0.out.alloc (.cells #[.int .i64 (z k 1)] 3)).o.lt) ?_; intro va y0 hown hgrow _ hat; have G1 := Lib.hid (lr_a (G0.out.alloc (.cells #[.int .i64 (z k 1)] 3)) hown hgrow hat); have T1 := Lib.hid ((T0.out.alloc (.cells #[.int .i64 (z k 1)] 3)).grownR hgrow (fun g hg => by have := RB.out (.slice aA (arrL z k).length ac) (by simp) g hg; omega)); clear G0 T0 hown hgrow hat; have t1 := T1.out.cell 1; have t5 := T1.out.cell 5; have t6 := T1.out.cell 6; have s0 := G1.out.s.cell 0; have s1 := G1.out.s.cell 1)
                  | (at_builtin; refine wpList_append_own_at _ rfl _ _ 40 rfl (w.heap.size + 1 + 1) 3 i0 (.int .i64 0) 1 8 Try.underlying40 hi hz0 hz1 hz2 rfl (by decide) _ _ _ rfl (G1.out.alloc (.cells #[.int .i64 (z k 5)] 3)).rb ⟨_, 0, none⟩ 1 1 [.int .i64 (z k 5)] rfl rfl (newsM_new (cs := #[.int .i64 (z k 5)])) (by intro u hu; simp at hu; subst hu; rfl) (by unfold maxLen; omega) (by omega) (Nat.succ_le_of_lt (G1.out.alloc (.cells #[.int .i64 (z k 5)] 3)).o.lt) ?_; intro vb y1 hown hgrow _ hat; have G2 := Lib.hid (lr_b (G1.out.alloc (.cells #[.int .i64 (z k 5)] 3)) hown hgrow hat); have T2 := Lib.hid ((T1.out.alloc (.cells #[.int .i64 (z k 5)] 3)).grownR hgrow (fun g hg => by have := RB.out (.slice bA (tickL 5 z k).length bc) (by simp) g hg; omega)); clear G1 T1 hown hgrow hat; have t1 := T2.out.cell 1; have t5 := T2.out.cell 5; have t6 := T2.out.cell 6; have s0 := G2.out.s.cell 0; have s1 := G2.out.s.cell 1; have u0 := (G2.out.alloc (.cells #[.int .i64 (z k 5)] 3)).s.cell 0; have u1 := (G2.out.alloc (.cells #[.int .i64 (z k 5)] 3)).s.cell 1))
                refine (WI.out _ _ _ (rd_one2 w5.out _)).mono ?_
                rintro e y2 ⟨rfl, hb⟩
                have G3 := Lib.hid ((G2.out.alloc (.cells #[.int .i64 (z k 5)] 3)).next hb)
                have T3 := Lib.hid ((T2.out.alloc (.cells #[.int .i64 (z k 5)] 3)).next hb)
                clear G2 T2 hb
                have t1 := T3.out.cell 1
                have t5 := T3.out.cell 5
                have t6 := T3.out.cell 6
                have s0 := G3.out.s.cell 0
                have s1 := G3.out.s.cell 1
                rw [dI]
                go_wp2_with fail
                go_roundg (n - (k + 1))
                case measure => omega
                case rel => exact ⟨k + 1, by omega, rfl, by go_num, by rw [EW2.out], by rw [EB2.out], Lib.hid (by rw [E5.out, E6.out]; exact G3.out)⟩
              · have d5 := decide_eq_false h5
                have dI : (if p ≤ z k 5 ∧ z k 5 < q then (1 : Int) else 0) = 0 := by rw [if_neg hI]
                have eW : ofW p q z (k + 1) = ofW p q z k := by rw [EW.out, if_neg (by omega)]; simp
                have eB : ofB p q z (k + 1) = ofB p q z k := by rw [EB.out, if_neg (by omega)]; simp
                have E5 := Lib.hid (tickL_yes hB)
                have E6 := Lib.hid (tickL_no hC)
                have EW2 := Lib.hid eW
                have EB2 := Lib.hid eB
                clear eW eB EW EB
                go_wp2_with (first
                  | (at_builtin; refine wpList_append_own_at _ rfl _ _ 40 rfl (w.heap.size + 1 + 1) 3 i0 (.int .i64 0) 1 8 Try.underlying40 hi hz0 hz1 hz2 rfl (by decide) _ _ _ rfl (G0.out.alloc (.cells #[.int .i64 (z k 1)] 3)).ra ⟨_, 0, none⟩ 1 1 [.int .i64 (z k 1)] rfl rfl (newsM_new2 (cs := #[.int .i64 (z k 1)])) (by intro u hu; simp at hu; subst hu; rfl) (by unfold maxLen; omega) (by omega) (Nat.succ_le_of_lt (G0.out.alloc (.cells #[.int .i64 (z k 1)] 3)).o.lt) ?_; intro va y0 hown hgrow _ hat; have G1 := Lib.hid (lr_a (G0.out.alloc (.cells #[.int .i64 (z k 1)] 3)) hown hgrow hat); have T1 := Lib.hid ((T0.out.alloc (.cells #[.int .i64 (z k 1)] 3)).grownR hgrow (fun g hg => by have := RB.out (.slice aA (arrL z k).length ac) (by simp) g hg; omega)); clear G0 T0 hown hgrow hat; have t1 := T1.out.cell 1; have t5 := T1.out.cell 5; have t6 := T1.out.cell 6; have s0 := G1.out.s.cell 0; have s1 := G1.out.s.cell 1)
                  | (at_builtin; refine wpList_append_own_at _ rfl _ _ 40 rfl (w.heap.size + 1 + 1) 3 i0 (.int .i64 0) 1 8 Try.underlying40 hi hz0 hz1 hz2 rfl (by decide) _ _ _ rfl (G1.out.alloc (.cells #[.int .i64 (z k 5)] 3)).rb ⟨_, 0, none⟩ 1 1 [.int .i64 (z k 5)] rfl rfl (newsM_new (cs := #[.int .i64 (z k 5)])) (by intro u hu; simp at hu; subst hu; rfl) (by unfold maxLen; omega) (by omega) (Nat.succ_le_of_lt (G1.out.alloc (.cells #[.int .i64 (z k 5)] 3)).o.lt) ?_; intro vb y1 hown hgrow _ hat; have G2 := Lib.hid (lr_b (G1.out.alloc (.cells #[.int .i64 (z k 5)] 3)) hown hgrow hat); have T2 := Lib.hid ((T1.out.alloc (.cells #[.int .i64 (z k 5)] 3)).grownR hgrow (fun g hg => by have := RB.out (.slice bA (tickL 5 z k).length bc) (by simp) g hg; omega)); clear G1 T1 hown hgrow hat; have t1 := T2.out.cell 1; have t5 := T2.out.cell 5; have t6 := T2.out.cell 6; have s0 := G2.out.s.cell 0; have s1 := G2.out.s.cell 1; have u0 := (G2.out.alloc (.cells #[.int .i64 (z k 5)] 3)).s.cell 0; have u1 := (G2.out.alloc (.cells #[.int .i64 (z k 5)] 3)).s.cell 1))
                refine (WI.out _ _ _ (rd_one2 w5.out _)).mono ?_
                rintro e y2 ⟨rfl, hb⟩
                have G3 := Lib.hid ((G2.out.alloc (.cells #[.int .i64 (z k 5)] 3)).next hb)
                have T3 := Lib.hid ((T2.out.alloc (.cells #[.int .i64 (z k 5)] 3)).next hb)
                clear G2 T2 hb
                have t1 := T3.out.cell 1
                have t5 := T3.out.cell 5
                have t6 := T3.out.cell 6
                have s0 := G3.out.s.cell 0
                have s1 := G3.out.s.cell 1
                rw [dI]
                go_wp2_with fail
                go_roundg (n - (k + 1))
                case measure => omega
                case rel => exact ⟨k + 1, by omega, rfl, by go_num, by rw [EW2.out], by rw [EB2.out], Lib.hid (by rw [E5.out, E6.out]; exact G3.out)⟩
      · by_cases hC : 0 ≤ z k 6
        · skip
          by_cases h1 : z k 1 < q
          · skip
            have eW : ofW p q z (k + 1) = ofW p q z k := by rw [EW.out, if_neg (by omega)]; simp
            have eB : ofB p q z (k + 1) = ofB p q z k + 1 := by rw [EB.out, if_pos (by omega)]
            have E5 := Lib.hid (tickL_no hB)
            have E6 := Lib.hid (tickL_yes hC)
            have EW2 := Lib.hid eW
            have EB2 := Lib.hid eB
            clear eW eB EW EB
            go_wp2_with (first
              | (at_builtin; refine wpList_append_own_at _ rfl _ _ 40 rfl (w.heap.size + 1 + 1) 3 i0 (.int .i64 0) 1 8 Try.underlying40 hi hz0 hz1 hz2 rfl (by decide) _ _ _ rfl (G0.out.alloc (.cells #[.int .i64 (z k 1)] 3)).ra ⟨_, 0, none⟩ 1 1 [.int .i64 (z k 1)] rfl rfl (newsM_new2 (cs := #[.int .i64 (z k 1)])) (by intro u hu; simp at hu; subst hu; rfl) (by unfold maxLen; omega) (by omega) (Nat.succ_le_of_lt (G0.out.alloc (.cells #[.int .i64 (z k 1)] 3)).o.lt) ?_; intro va y0 hown hgrow _ hat; have G1 := Lib.hid (lr_a (G0.out.alloc (.cells #[.int .i64 (z k 1)] 3)) hown hgrow hat); have T1 := Lib.hid ((T0.out.alloc (.cells #[.int .i64 (z k 1)] 3)).grownR hgrow (fun g hg => by have := RB.out (.slice aA (arrL z k).length ac) (by simp) g hg; omega)); clear G0 T0 hown hgrow hat; have t1 := T1.out.cell 1; have t5 := T1.out.cell 5; have t6 := T1.out.cell 6; have s0 := G1.out.s.cell 0; have s1 := G1.out.s.cell 1)
              | (at_builtin; refine wpList_append_own_at _ rfl _ _ 40 rfl (w.heap.size + 1 + 1) 3 i0 (.int .i64 0) 1 8 Try.underlying40 hi hz0 hz1 hz2 rfl (by decide) _ _ _ rfl (G1.out.alloc (.cells #[.int .i64 (z k 6)] 3)).rc ⟨_, 0, none⟩ 1 1 [.int .i64 (z k 6)] rfl rfl (newsM_new (cs := #[.int .i64 (z k 6)])) (by intro u hu; simp at hu; subst hu; rfl) (by unfold maxLen; omega) (by omega) (Nat.succ_le_of_lt (G1.out.alloc (.cells #[.int .i64 (z k 6)] 3)).o.lt) ?_; intro vc y1 hown hgrow _ hat; have G2 := Lib.hid (lr_c (G1.out.alloc (.cells #[.int .i64 (z k 6)] 3)) hown hgrow hat); have T2 := Lib.hid ((T1.out.alloc (.cells #[.int .i64 (z k 6)] 3)).grownR hgrow (fun g hg => by have := RB.out (.slice cA (tickL 6 z k).length cc) (by simp) g hg; omega)); clear G1 T1 hown hgrow hat; have t1 := T2.out.cell 1; have t5 := T2.out.cell 5; have t6 := T2.out.cell 6; have s0 := G2.out.s.cell 0; have s1 := G2.out.s.cell 1))
            go_roundg (n - (k + 1))
            case measure => omega
            case rel => exact ⟨k + 1, by omega, rfl, by go_num, by rw [EW2.out], by rw [EB2.out], Lib.hid (by rw [E5.out, E6.out]; exact G2.out)⟩
          · skip
            have eW : ofW p q z (k + 1) = ofW p q z k := by rw [EW.out, if_neg (by omega)]; simp
            have eB : ofB p q z (k + 1) = ofB p q z k := by rw [EB.out, if_neg (by omega)]; simp
            have E5 := Lib.hid (tickL_no hB)
            have E6 := Lib.hid (tickL_yes hC)
            have EW2 := Lib.hid eW
            have EB2 := Lib.hid eB
            clear eW eB EW EB
            go_wp2_with (first
              | (at_builtin; refine wpList_append_own_at _ rfl _ _ 40 rfl (w.heap.size + 1 + 1) 3 i0 (.int .i64 0) 1 8 Try.underlying40 hi hz0 hz1 hz2 rfl (by decide) _ _ _ rfl (G0.out.alloc (.cells #[.int .i64 (z k 1)] 3)).ra ⟨_, 0, none⟩ 1 1 [.int .i64 (z k 1)] rfl rfl (newsM_new2 (cs := #[.int .i64 (z k 1)])) (by intro u hu; simp at hu; subst hu; rfl) (by unfold maxLen; omega) (by omega) (Nat.succ_le_of_lt (G0.out.alloc (.cells #[.int .i64 (z k 1)] 3)).o.lt) ?_; intro va y0 hown hgrow _ hat; have G1 := Lib.hid (lr_a (G0.out.alloc (.cells #[.int .i64 (z k 1)] 3)) hown hgrow hat); have T1 := Lib.hid ((T0.out.alloc (.cells #[.int .i64 (z k 1)] 3)).grownR hgrow (fun g hg => by have := RB.out (.slice aA (arrL z k).length ac) (by simp) g hg; omega)); clear G0 T0 hown hgrow hat; have t1 := T1.out.cell 1; have t5 := T1.out.cell 5; have t6 := T1.out.cell 6; have s0 := G1.out.s.cell 0; have s1 := G1.out.s.cell 1)
              | (at_builtin; refine wpList_append_own_at _ rfl _ _ 40 rfl (w.heap.size + 1 + 1) 3 i0 (.int .i64 0) 1 8 Try.underlying40 hi hz0 hz1 hz2 rfl (by decide) _ _ _ rfl (G1.out.alloc (.cells #[.int .i64 (z k 6)] 3)).rc ⟨_, 0, none⟩ 1 1 [.int .i64 (z k 6)] rfl rfl (newsM_new (cs := #[.int .i64 (z k 6)])) (by intro u hu; simp at hu; subst hu; rfl) (by unfold maxLen; omega) (by omega) (Nat.succ_le_of_lt (G1.out.alloc (.cells #[.int .i64 (z k 6)] 3)).o.lt) ?_; intro vc y1 hown hgrow _ hat; have G2 := Lib.hid (lr_c (G1.out.alloc (.cells #[.int .i64 (z k 6)] 3)) hown hgrow hat); have T2 := Lib.hid ((T1.out.alloc (.cells #[.int .i64 (z k 6)] 3)).grownR hgrow (fun g hg => by have := RB.out (.slice cA (tickL 6 z k).length cc) (by simp) g hg; omega)); clear G1 T1 hown hgrow hat; have t1 := T2.out.cell 1; have t5 := T2.out.cell 5; have t6 := T2.out.cell 6; have s0 := G2.out.s.cell 0; have s1 := G2.out.s.cell 1))
            go_roundg (n - (k + 1))
            case measure => omega
            case rel => exact ⟨k + 1, by omega, rfl, by go_num, by rw [EW2.out], by rw [EB2.out], Lib.hid (by rw [E5.out, E6.out]; exact G2.out)⟩
        · skip
          by_cases h1 : z k 1 < q
          · skip
            have eW : ofW p q z (k + 1) = ofW p q z k := by rw [EW.out, if_neg (by omega)]; simp
            have eB : ofB p q z (k + 1) = ofB p q z k + 1 := by rw [EB.out, if_pos (by omega)]
            have E5 := Lib.hid (tickL_no hB)
            have E6 := Lib.hid (tickL_no hC)
            have EW2 := Lib.hid eW
            have EB2 := Lib.hid eB
            clear eW eB EW EB
            go_wp2_with (first
              | (at_builtin; refine wpList_append_own_at _ rfl _ _ 40 rfl (w.heap.size + 1 + 1) 3 i0 (.int .i64 0) 1 8 Try.underlying40 hi hz0 hz1 hz2 rfl (by decide) _ _ _ rfl (G0.out.alloc (.cells #[.int .i64 (z k 1)] 3)).ra ⟨_, 0, none⟩ 1 1 [.int .i64 (z k 1)] rfl rfl (newsM_new2 (cs := #[.int .i64 (z k 1)])) (by intro u hu; simp at hu; subst hu; rfl) (by unfold maxLen; omega) (by omega) (Nat.succ_le_of_lt (G0.out.alloc (.cells #[.int .i64 (z k 1)] 3)).o.lt) ?_; intro va y0 hown hgrow _ hat; have G1 := Lib.hid (lr_a (G0.out.alloc (.cells #[.int .i64 (z k 1)] 3)) hown hgrow hat); have T1 := Lib.hid ((T0.out.alloc (.cells #[.int .i64 (z k 1)] 3)).grownR hgrow (fun g hg => by have := RB.out (.slice aA (arrL z k).length ac) (by simp) g hg; omega)); clear G0 T0 hown hgrow hat; have t1 := T1.out.cell 1; have t5 := T1.out.cell 5; have t6 := T1.out.cell 6; have s0 := G1.out.s.cell 0; have s1 := G1.out.s.cell 1))
            go_roundg (n - (k + 1))
            case measure => omega
            case rel => exact ⟨k + 1, by omega, rfl, by go_num, by rw [EW2.out], by rw [EB2.out], Lib.hid (by rw [E5.out, E6.out]; exact G1.out)⟩
          · skip
            have eW : ofW p q z (k + 1) = ofW p q z k := by rw [EW.out, if_neg (by omega)]; simp
            have eB : ofB p q z (k + 1) = ofB p q z k := by rw [EB.out, if_neg (by omega)]; simp
            have E5 := Lib.hid (tickL_no hB)
            have E6 := Lib.hid (tickL_no hC)
            have EW2 := Lib.hid eW
            have EB2 := Lib.hid eB
            clear eW eB EW EB
            go_wp2_with (first
              | (at_builtin; refine wpList_append_own_at _ rfl _ _ 40 rfl (w.heap.size + 1 + 1) 3 i0 (.int .i64 0) 1 8 Try.underlying40 hi hz0 hz1 hz2 rfl (by decide) _ _ _ rfl (G0.out.alloc (.cells #[.int .i64 (z k 1)] 3)).ra ⟨_, 0, none⟩ 1 1 [.int .i64 (z k 1)] rfl rfl (newsM_new2 (cs := #[.int .i64 (z k 1)])) (by intro u hu; simp at hu; subst hu; rfl) (by unfold maxLen; omega) (by omega) (Nat.succ_le_of_lt (G0.out.alloc (.cells #[.int .i64 (z k 1)] 3)).o.lt) ?_; intro va y0 hown hgrow _ hat; have G1 := Lib.hid (lr_a (G0.out.alloc (.cells #[.int .i64 (z k 1)] 3)) hown hgrow hat); have T1 := Lib.hid ((T0.out.alloc (.cells #[.int .i64 (z k 1)] 3)).grownR hgrow (fun g hg => by have := RB.out (.slice aA (arrL z k).length ac) (by simp) g hg; omega)); clear G0 T0 hown hgrow hat; have t1 := T1.out.cell 1; have t5 := T1.out.cell 5; have t6 := T1.out.cell 6; have s0 := G1.out.s.cell 0; have s1 := G1.out.s.cell 1))
            go_roundg (n - (k + 1))
            case measure => omega
            case rel => exact ⟨k + 1, by omega, rfl, by go_num, by rw [EW2.out], by rw [EB2.out], Lib.hid (by rw [E5.out, E6.out]; exact G1.out)⟩
    · obtain rfl : k = n := by omega
      have R1 : Hid (RdI wr .i64 aA (arrL z k)) := Lib.hid (by
        obtain ⟨A', c', e, hrd⟩ := ownR_rd HF.out.ra (arr_wf HTB.out k (Nat.le_refl k))
        injection e with e1 e2 e3
        rw [e1]; exact hrd)
      have R2 : Hid (RdI wr .i64 bA (tickL 5 z k)) := Lib.hid (by
        obtain ⟨A', c', e, hrd⟩ := ownR_rd HF.out.rb (tick_wf HTB.out (.inl rfl) k (Nat.le_refl k))
        injection e with e1 e2 e3
        rw [e1]; exact hrd)
      have R3 : Hid (RdI wr .i64 cA (tickL 6 z k)) := Lib.hid (by
        obtain ⟨A', c', e, hrd⟩ := ownR_rd HF.out.rc (tick_wf HTB.out (.inr rfl) k (Nat.le_refl k))
        injection e with e1 e2 e3
        rw [e1]; exact hrd)
      have LA := Lib.hid (fun X (hX : RdI X .i64 aA (arrL z k)) => lwithin aA ac (arrL z k).length (arrL z k) p q X hX rfl (by omega))
      have LB := Lib.hid (fun X (hX : RdI X .i64 bA (tickL 5 z k)) => lwithin bA bc (tickL 5 z k).length (tickL 5 z k) p q X hX rfl (by omega))
      have LC := Lib.hid (fun X (hX : RdI X .i64 cA (tickL 6 z k)) => lwithin cA cc (tickL 6 z k).length (tickL 6 z k) p q X hX rfl (by omega))
      rw [arr_C] at LA
      rw [tick_I] at LB
      rw [tick_O] at LC
      have R1d := Lib.hid (show RdI wr.drew .i64 aA (arrL z k) from R1.out)
      have R2d := Lib.hid (show RdI wr.drew .i64 bA (tickL 5 z k) from R2.out)
      have R3d := Lib.hid (show RdI wr.drew .i64 cA (tickL 6 z k) from R3.out)
      have HS := Lib.hid HF.out.s
      have HO := Lib.hid HF.out.o
      have EE := Lib.hid HF.out.e
      have fs0 := HS.out.cell 0
      have fs1 := HS.out.cell 1
      clear R1 R2 R3 HF
      clear la lb lc h
      obtain ⟨La, hLa⟩ : ∃ l, arrL z k = l := ⟨_, rfl⟩
      obtain ⟨Lb, hLb⟩ : ∃ l, tickL 5 z k = l := ⟨_, rfl⟩
      obtain ⟨Lc, hLc⟩ : ∃ l, tickL 6 z k = l := ⟨_, rfl⟩
      simp only [hLa, hLb, hLc] at LA LB LC R1d R2d R3d ⊢
      clear hLa hLb hLc HTB HR
      go_wp2_with fail
      have sK : ∀ X, Blk X (w.heap.size) 24 #[.int .i64 p, .int .i64 q] → (fun X => X.cell? ⟨w.heap.size, 0, none⟩ = some (.int .i64 p) ∧ X.cell? ⟨w.heap.size, 1, none⟩ = some (.int .i64 q)) X := fun X hS => ⟨hS.cell 0, hS.cell 1⟩
      have LS0 := Lib.hid (HS.out.drew)
      have LO0 := Lib.hid (HO.out.drew)
      have E0 := Lib.hid (EE.out.drew)
      refine wp_region_held_drew (S := (fun X => X.cell? ⟨w.heap.size, 0, none⟩ = some (.int .i64 p) ∧ X.cell? ⟨w.heap.size, 1, none⟩ = some (.int .i64 q))) (by kernel_rfl) (sK _ LS0.out) (fun hHeld => ?_)
      clear hHeld
      clear fs0 fs1
      refine wpAnyH_take (i := 0) (v := ?_) rfl (by kernel_rfl) (by kernel_rfl) (by kernel_rfl) (fun _ _ _ h => h) (Or.inl ⟨by rfl, ?_⟩) (sK _ LS0.out) ?_
      rotate_left
      · (intro wS hSw; (try dsimp only at hSw); go_simp; try with_reducible rfl)
      simp only [Act.put, List.getElem_toArray, List.getElem_cons_zero, List.getElem_cons_succ, List.setIfInBounds_toArray, List.set_cons_zero, List.set_cons_succ]
      refine wpAnyH_take (i := 1) (v := ?_) rfl (by kernel_rfl) (by kernel_rfl) (by kernel_rfl) (fun _ _ _ h => h) (Or.inl ⟨by rfl, ?_⟩) (sK _ LS0.out) ?_
      rotate_left
      · (intro wS hSw; (try dsimp only at hSw); go_simp; try with_reducible rfl)
      simp only [Act.put, List.getElem_toArray, List.getElem_cons_zero, List.getElem_cons_succ, List.setIfInBounds_toArray, List.set_cons_zero, List.set_cons_succ]
      refine wpAnyH_take (i := 2) (v := ?_) rfl (by kernel_rfl) (by kernel_rfl) (by kernel_rfl) (fun _ _ _ h => h) (Or.inl ⟨by rfl, ?_⟩) (sK _ LS0.out) ?_
      rotate_left
      · (intro wS hSw; (try dsimp only at hSw); go_simp; try with_reducible rfl)
      simp only [Act.put, List.getElem_toArray, List.getElem_cons_zero, List.getElem_cons_succ, List.setIfInBounds_toArray, List.set_cons_zero, List.set_cons_succ]
      refine wpAnyH_take (i := 4) (v := ?_) rfl (by kernel_rfl) (by kernel_rfl) (by kernel_rfl) (fun _ _ _ h => h) (Or.inl ⟨by rfl, ?_⟩) (sK _ LS0.out) ?_
      rotate_left
      · (intro wS hSw; (try dsimp only at hSw); go_simp; try with_reducible rfl)
      simp only [Act.put, List.getElem_toArray, List.getElem_cons_zero, List.getElem_cons_succ, List.setIfInBounds_toArray, List.set_cons_zero, List.set_cons_succ]
      refine wpAnyH_take (i := 5) (v := ?_) rfl (by kernel_rfl) (by kernel_rfl) (by kernel_rfl) (fun _ _ _ h => h) (Or.inl ⟨by rfl, ?_⟩) (sK _ LS0.out) ?_
      rotate_left
      · (intro wS hSw; (try dsimp only at hSw); go_simp; try with_reducible rfl)
      simp only [Act.put, List.getElem_toArray, List.getElem_cons_zero, List.getElem_cons_succ, List.setIfInBounds_toArray, List.set_cons_zero, List.set_cons_succ]
      refine wpAnyH_take (i := 7) (v := ?_) rfl (by kernel_rfl) (by kernel_rfl) (by kernel_rfl) (fun _ _ _ h => h) (Or.inl ⟨by rfl, ?_⟩) (sK _ LS0.out) ?_
      rotate_left
      · (intro wS hSw; (try dsimp only at hSw); go_simp; try with_reducible rfl)
      simp only [Act.put, List.getElem_toArray, List.getElem_cons_zero, List.getElem_cons_succ, List.setIfInBounds_toArray, List.set_cons_zero, List.set_cons_succ]
      refine wpAnyH_take (i := 8) (v := ?_) rfl (by kernel_rfl) (by kernel_rfl) (by kernel_rfl) (fun _ _ _ h => h) (Or.inl ⟨by rfl, ?_⟩) (sK _ LS0.out) ?_
      rotate_left
      · (intro wS hSw; (try dsimp only at hSw); go_simp; try with_reducible rfl)
      simp only [Act.put, List.getElem_toArray, List.getElem_cons_zero, List.getElem_cons_succ, List.setIfInBounds_toArray, List.set_cons_zero, List.set_cons_succ]
      refine wpAnyH_take (i := 10) (v := ?_) rfl (by kernel_rfl) (by kernel_rfl) (by kernel_rfl) (fun _ _ _ h => h) (Or.inl ⟨by rfl, ?_⟩) (sK _ LS0.out) ?_
      rotate_left
      · (intro wS hSw; (try dsimp only at hSw); go_simp; try with_reducible rfl)
      simp only [Act.put, List.getElem_toArray, List.getElem_cons_zero, List.getElem_cons_succ, List.setIfInBounds_toArray, List.set_cons_zero, List.set_cons_succ]
      refine wpAnyH_take (i := 11) (v := ?_) rfl (by kernel_rfl) (by kernel_rfl) (by kernel_rfl) (fun _ _ _ h => h) (Or.inl ⟨by rfl, ?_⟩) (sK _ LS0.out) ?_
      rotate_left
      · (intro wS hSw; (try dsimp only at hSw); go_simp; try with_reducible rfl)
      simp only [Act.put, List.getElem_toArray, List.getElem_cons_zero, List.getElem_cons_succ, List.setIfInBounds_toArray, List.set_cons_zero, List.set_cons_succ]
      refine wpAnyH_ready (rs := [3]) (by kernel_rfl) (by simp) ?_
      refine AllReadyH.cons rfl (fun K hK => ?_) AllReadyH.nil
      go_simp
      refine (LA.out _ R1d.out).mono ?_
      rintro e r1 ⟨rfl, hb⟩
      have LS1 := Lib.hid (LS0.out.next hb)
      have LO1 := Lib.hid (LO0.out.next hb)
      have E1 := Lib.hid (E0.out.trans (hb.mono E0.out.size))
      have R2e := Lib.hid (R2d.out.kept hb); have R3e := Lib.hid (R3d.out.kept hb)
      clear hb
      go_wp2_with fail
      refine hK.out _ _ (sK _ LS1.out) (fun hHeld => ?_)
      clear hK K hHeld
      try simp only [Act.put, List.getElem_toArray, List.getElem_cons_zero, List.getElem_cons_succ, List.setIfInBounds_toArray, List.set_cons_zero, List.set_cons_succ]
      refine wpAnyH_ready (rs := [6]) (by kernel_rfl) (by simp) ?_
      refine AllReadyH.cons rfl (fun K hK => ?_) AllReadyH.nil
      go_simp
      refine (LB.out _ R2e.out).mono ?_
      rintro e r2 ⟨rfl, hb⟩
      have LS2 := Lib.hid (LS1.out.next hb)
      have LO2 := Lib.hid (LO1.out.next hb)
      have E2 := Lib.hid (E1.out.trans (hb.mono E1.out.size))
      have R3f := Lib.hid (R3e.out.kept hb)
      clear hb
      go_wp2_with fail
      refine hK.out _ _ (sK _ LS2.out) (fun hHeld => ?_)
      clear hK K hHeld
      try simp only [Act.put, List.getElem_toArray, List.getElem_cons_zero, List.getElem_cons_succ, List.setIfInBounds_toArray, List.set_cons_zero, List.set_cons_succ]
      refine wpAnyH_ready (rs := [9]) (by kernel_rfl) (by simp) ?_
      refine AllReadyH.cons rfl (fun K hK => ?_) AllReadyH.nil
      go_simp
      refine (LC.out _ R3f.out).mono ?_
      rintro e r3 ⟨rfl, hb⟩
      have LS3 := Lib.hid (LS2.out.next hb)
      have LO3 := Lib.hid (LO2.out.next hb)
      have E3 := Lib.hid (E2.out.trans (hb.mono E2.out.size))
      clear hb
      go_wp2_with fail
      refine hK.out _ _ (sK _ LS3.out) (fun hHeld => ?_)
      clear hK K hHeld
      try simp only [Act.put, List.getElem_toArray, List.getElem_cons_zero, List.getElem_cons_succ, List.setIfInBounds_toArray, List.set_cons_zero, List.set_cons_succ]
      refine wpAnyH_take (i := 12) (v := ?_) rfl (by kernel_rfl) (by kernel_rfl) (by kernel_rfl) (fun _ _ _ h => h) (Or.inl ⟨by rfl, ?_⟩) (sK _ LS3.out) ?_
      rotate_left
      · (intro wS hSw; (try dsimp only at hSw); go_simp; try with_reducible rfl)
      simp only [Act.put, List.getElem_toArray, List.getElem_cons_zero, List.getElem_cons_succ, List.setIfInBounds_toArray, List.set_cons_zero, List.set_cons_succ]
      refine wpAnyH_ready (rs := [13]) (by kernel_rfl) (by simp) ?_
      refine AllReadyH.cons rfl (fun K hK => ?_) AllReadyH.nil
      have s0 := LO3.out.cell 0
      have f0 := LO3.out.frozen 0
      have s1 := LO3.out.cell 1
      have f1 := LO3.out.frozen 1
      have s2 := LO3.out.cell 2
      have f2 := LO3.out.frozen 2
      have s3 := LO3.out.cell 3
      have f3 := LO3.out.frozen 3
      have s4 := LO3.out.cell 4
      have f4 := LO3.out.frozen 4
      have s5 := LO3.out.cell 5
      have f5 := LO3.out.frozen 5
      have s6 := LO3.out.cell 6
      have f6 := LO3.out.frozen 6
      go_simp
      clear s0 f0 s1 f1 s2 f2 s3 f3 s4 f4 s5 f5 s6 f6
      have LS4 : Blk (((((((r3.setCell ⟨w.heap.size + 1, 0, none⟩ (.int .i64 p)).setCell ⟨w.heap.size + 1, 1, none⟩ (.int .i64 q)).setCell ⟨w.heap.size + 1, 2, none⟩ (.int .i64 (ofC p q z k))).setCell ⟨w.heap.size + 1, 3, none⟩ (.int .i64 (ofI p q z k))).setCell ⟨w.heap.size + 1, 4, none⟩ (.int .i64 (ofO p q z k))).setCell ⟨w.heap.size + 1, 5, none⟩ (.int .i64 (ofW p q z k))).setCell ⟨w.heap.size + 1, 6, none⟩ (.int .i64 (ofB p q z k))) (w.heap.size) 24 #[.int .i64 p, .int .i64 q] := (((((((LS3.out.far (p := ⟨w.heap.size + 1, 0, none⟩) (by show w.heap.size ≠ w.heap.size + 1; omega) (.int .i64 p)).far (p := ⟨w.heap.size + 1, 1, none⟩) (by show w.heap.size ≠ w.heap.size + 1; omega) (.int .i64 q)).far (p := ⟨w.heap.size + 1, 2, none⟩) (by show w.heap.size ≠ w.heap.size + 1; omega) (.int .i64 (ofC p q z k))).far (p := ⟨w.heap.size + 1, 3, none⟩) (by show w.heap.size ≠ w.heap.size + 1; omega) (.int .i64 (ofI p q z k))).far (p := ⟨w.heap.size + 1, 4, none⟩) (by show w.heap.size ≠ w.heap.size + 1; omega) (.int .i64 (ofO p q z k))).far (p := ⟨w.heap.size + 1, 5, none⟩) (by show w.heap.size ≠ w.heap.size + 1; omega) (.int .i64 (ofW p q z k))).far (p := ⟨w.heap.size + 1, 6, none⟩) (by show w.heap.size ≠ w.heap.size + 1; omega) (.int .i64 (ofB p q z k)))
      have LO4 : Blk (((((((r3.setCell ⟨w.heap.size + 1, 0, none⟩ (.int .i64 p)).setCell ⟨w.heap.size + 1, 1, none⟩ (.int .i64 q)).setCell ⟨w.heap.size + 1, 2, none⟩ (.int .i64 (ofC p q z k))).setCell ⟨w.heap.size + 1, 3, none⟩ (.int .i64 (ofI p q z k))).setCell ⟨w.heap.size + 1, 4, none⟩ (.int .i64 (ofO p q z k))).setCell ⟨w.heap.size + 1, 5, none⟩ (.int .i64 (ofW p q z k))).setCell ⟨w.heap.size + 1, 6, none⟩ (.int .i64 (ofB p q z k))) (w.heap.size + 1) 28 #[.int .i64 p, .int .i64 q, .int .i64 (ofC p q z k), .int .i64 (ofI p q z k), .int .i64 (ofO p q z k), .int .i64 (ofW p q z k), .int .i64 (ofB p q z k)] := (((((((LO3.out.set 0 (.int .i64 p)).set 1 (.int .i64 q)).set 2 (.int .i64 (ofC p q z k))).set 3 (.int .i64 (ofI p q z k))).set 4 (.int .i64 (ofO p q z k))).set 5 (.int .i64 (ofW p q z k))).set 6 (.int .i64 (ofB p q z k)))
      have E4 : Below w.heap.size w (((((((r3.setCell ⟨w.heap.size + 1, 0, none⟩ (.int .i64 p)).setCell ⟨w.heap.size + 1, 1, none⟩ (.int .i64 q)).setCell ⟨w.heap.size + 1, 2, none⟩ (.int .i64 (ofC p q z k))).setCell ⟨w.heap.size + 1, 3, none⟩ (.int .i64 (ofI p q z k))).setCell ⟨w.heap.size + 1, 4, none⟩ (.int .i64 (ofO p q z k))).setCell ⟨w.heap.size + 1, 5, none⟩ (.int .i64 (ofW p q z k))).setCell ⟨w.heap.size + 1, 6, none⟩ (.int .i64 (ofB p q z k))) := (((((((E3.out.setCell (p := ⟨w.heap.size + 1, 0, none⟩) (by show w.heap.size ≤ w.heap.size + 1; omega) _).setCell (p := ⟨w.heap.size + 1, 1, none⟩) (by show w.heap.size ≤ w.heap.size + 1; omega) _).setCell (p := ⟨w.heap.size + 1, 2, none⟩) (by show w.heap.size ≤ w.heap.size + 1; omega) _).setCell (p := ⟨w.heap.size + 1, 3, none⟩) (by show w.heap.size ≤ w.heap.size + 1; omega) _).setCell (p := ⟨w.heap.size + 1, 4, none⟩) (by show w.heap.size ≤ w.heap.size + 1; omega) _).setCell (p := ⟨w.heap.size + 1, 5, none⟩) (by show w.heap.size ≤ w.heap.size + 1; omega) _).setCell (p := ⟨w.heap.size + 1, 6, none⟩) (by show w.heap.size ≤ w.heap.size + 1; omega) _)
      obtain ⟨r4, hr4⟩ : ∃ V, (((((((r3.setCell ⟨w.heap.size + 1, 0, none⟩ (.int .i64 p)).setCell ⟨w.heap.size + 1, 1, none⟩ (.int .i64 q)).setCell ⟨w.heap.size + 1, 2, none⟩ (.int .i64 (ofC p q z k))).setCell ⟨w.heap.size + 1, 3, none⟩ (.int .i64 (ofI p q z k))).setCell ⟨w.heap.size + 1, 4, none⟩ (.int .i64 (ofO p q z k))).setCell ⟨w.heap.size + 1, 5, none⟩ (.int .i64 (ofW p q z k))).setCell ⟨w.heap.size + 1, 6, none⟩ (.int .i64 (ofB p q z k))) = V := ⟨_, rfl⟩
      rw [hr4]
      rw [hr4] at LS4 LO4 E4
      clear hr4
      replace LS4 := Lib.hid LS4
      replace LO4 := Lib.hid LO4
      replace E4 := Lib.hid E4
      refine hK.out _ _ (sK _ LS4.out) (fun hHeld => ?_)
      clear hK K hHeld
      try simp only [Act.put, List.getElem_toArray, List.getElem_cons_zero, List.getElem_cons_succ, List.setIfInBounds_toArray, List.set_cons_zero, List.set_cons_succ]
      refine wpAnyH_done (by kernel_rfl) ?_ _
      have o0 := LO4.out.cell 0
      have o1 := LO4.out.cell 1
      have o2 := LO4.out.cell 2
      have o3 := LO4.out.cell 3
      have o4 := LO4.out.cell 4
      have o5 := LO4.out.cell 5
      have o6 := LO4.out.cell 6
      go_wp2_with fail
      refine bodyPost_ret (v := .agg #[.int .i64 p, .int .i64 q, .int .i64 (ofC p q z k), .int .i64 (ofI p q z k), .int .i64 (ofO p q z k), .int .i64 (ofW p q z k), .int .i64 (ofB p q z k)]) (by simp [results, Try.results6, go_sem, *]) rfl ⟨rfl, E4.out⟩
end Go.Proofs.Ytffcmfpadaebdab
