/- The law's own row of all numbers of a set. -/
import Derived.RangeFuncBox
import Derived.RangeFuncNested
import Derived.RangeFuncBound
import Derived.RangeFuncCalls
import Derived.RangeFuncLeaves
import Derived.Shelf.Abstract
import Derived.Shelf.RegionOpen
import Derived.WalkKit
import Derived.OwnWalkIn
import Derived.TacticsInMore
import Derived.LoopNIn
import Derived.LoopIn
import Derived.Maps.AppendAt
import Derived.Lib.Hide
import Derived.Test.YtdcollehdhkngaaDoorRows
import Derived.Test.YtdcollehdhkngaaDoorRowKit
import Derived.Test.YtdcollehdhkngaaDoorSlicesEq
import Derived.Test.YtdcollehdhkngaaDoorRowL
import Derived.Test.YtdcollehdhkngaaDoorMakeI
import Derived.Test.YtdcollehdhkngaaDoorBlocks
import Derived.Test.YtdcollehdhkngaaDoorBitsMath
import Derived.Test.YtdcollehdhkngaaDoorBitsH
import Derived.Test.YtdcollehdhkngaaDoorBitsK
import Derived.Test.YtdcollehdhkngaaDoorBitsP
import Derived.Test.YtdcollehdhkngaaDoorBitsU
import Derived.Test.YtdcollehdhkngaaDoorBitsV
namespace Go.Proofs.YtdcollehdhkngaaDoor
open Go.RowKit Go.Shelf
set_option linter.unusedSimpArgs false
set_option linter.unusedVariables false
attribute [local go_sem] Oper.semAt_some
theorem Blk.not_row {W : World} {B : Nat} {t e : TypeId} {cs : Array Value} (h : Blk W B t cs) (hte : t ≠ e) {base size k : Nat} {v : Value} {xs : List Value} (hr : W.ownsRow base e size v k xs) : some B ≠ v.ownBlock := by
  rcases hr.2 with ⟨rfl, _⟩ | ⟨g, cap, cur, rfl, _, hgb, _⟩
  · simp [Value.ownBlock]
  · intro e'
    obtain rfl : B = g := by simpa [Value.ownBlock] using e'
    have := (show W.heap[B]? = _ from h).symm.trans hgb
    simp at this
    exact hte this.2
theorem blk_own {β : Type} (B : Nat) (t : TypeId) (cs : Array Value) : Own (fun (_ : β) W => Blk W B t cs) := by
  rintro s X Y row hv hg hrow
  refine (hg.block B hv.lt ?_).trans hv
  intro e'
  obtain ⟨o, ho, hc⟩ := hrow B e'.symm
  rw [show X.heap[B]? = _ from hv] at ho; cases ho; cases hc
theorem itL_get (F : Nat → Bool) : ∀ k, k ≤ 128 → ∀ i, i < (itL F k).length → (Lit.int .i64 (zat (itL F k) i)).wf = true := fun k hk => itL_wf F k hk
set_option maxRecDepth 100000 in
set_option maxHeartbeats 2000000 in
theorem lawall_any (F : Nat → Bool) (w : World) (hT : TzT w) :
    Calls Tryd.prog 32 #[setV F] w fun e w' => ∃ A c, e = .returned (.slice A (itL F 128).length c) ∧ RdI w' .i64 A (itL F 128) ∧ Below w.heap.size w w' := by
  obtain ⟨i0, hi, hz0, hz1, hz2⟩ := info_parts mkInfo
  have AS := fun w1 hB hW => all_stops F 3 (w.heap.size + 1 + 1) w w1 hT hB hW
  unfold setV
  obtain ⟨x, hX⟩ : ∃ x, wordX F = x := ⟨_, rfl⟩
  obtain ⟨y, hY⟩ : ∃ y, wordY F = y := ⟨_, rfl⟩
  rw [hX, hY] at AS ⊢
  have ASh := Lib.hid AS
  have EQN : ∀ (p : Addr) (w : World), (binOp .eql 93 (.func (.func 89) #[] #[.pointer (some p)]) Value.nilFunc).run Tryd.prog w = .ok (.bool false) w := fun p w => by kernel_rfl
  clear AS hX hY
  refine (callsIn_wide (n := 5)).1 ?_
  refine callsIn_of_wp_marks Tryd.func32 rfl trivial ?_ rfl
  simp only [Tryd.ntmps32, List.size_toArray, List.length_cons, List.length_nil, Nat.reduceAdd, Nat.reduceSub, Array.replicate_succ, Array.replicate_zero, List.push_toArray, List.append_toArray, List.nil_append, List.cons_append]
  gi_wp2
  refine ⟨trivial, ?_⟩
  refine (callsIn_wide.2 (allc_any x y _)).mono ?_
  rintro e w1 ⟨rfl, rfl⟩
  gi_wp2
  have bS := (((Blk.new w #[(.int .u64 x : Value), .int .u64 y] 24).alloc (.cells #[.slice none 0 0] 25)).alloc (.cells #[.int .u64 x, .int .u64 y] 24))
  have bO : Boxed (((w.alloc (.cells #[.int .u64 x, .int .u64 y] 24)).alloc (.cells #[.slice none 0 0] 25)).alloc (.cells #[.int .u64 x, .int .u64 y] 24)) (w.heap.size + 1) 25 (.slice none 0 0) := by
    have := (Boxed.new (w.alloc (.cells #[.int .u64 x, .int .u64 y] 24)) 25 (.slice none 0 0)).alloc (.cells #[.int .u64 x, .int .u64 y] 24)
    rwa [World.size_alloc] at this
  have bN : Blk (((w.alloc (.cells #[.int .u64 x, .int .u64 y] 24)).alloc (.cells #[.slice none 0 0] 25)).alloc (.cells #[.int .u64 x, .int .u64 y] 24)) (w.heap.size + 1 + 1) 24 #[.int .u64 x, .int .u64 y] := by
    have := Blk.new ((w.alloc (.cells #[.int .u64 x, .int .u64 y] 24)).alloc (.cells #[.slice none 0 0] 25)) #[.int .u64 x, .int .u64 y] 24
    rwa [World.size_alloc, World.size_alloc] at this
  have BE : Below w.heap.size w (((w.alloc (.cells #[.int .u64 x, .int .u64 y] 24)).alloc (.cells #[.slice none 0 0] 25)).alloc (.cells #[.int .u64 x, .int .u64 y] 24)) := (((Below.refl w.heap.size w).alloc (Nat.le_refl _) _).alloc (by simp) _).alloc (by simp; omega) _
  obtain ⟨X, hX⟩ : ∃ X, ((w.alloc (.cells #[.int .u64 x, .int .u64 y] 24)).alloc (.cells #[.slice none 0 0] 25)).alloc (.cells #[.int .u64 x, .int .u64 y] 24) = X := ⟨_, rfl⟩
  have hsz : X.heap.size = w.heap.size + 1 + 1 + 1 := by rw [← hX]; simp
  rw [hX] at bO bN BE ⊢
  clear hX bS
  refine wpIn_rangeFunc_ownF rfl (by omega) (gf := 89) (lb := #[.pointer (some ⟨w.heap.size + 1 + 1, 0, none⟩)]) rfl trivial (enters_of Tryd.func89 (by kernel_rfl) rfl)
    (ASh.out X bN BE) kpB_t (kpB_b (by omega) (by omega)) (Below.refl _ _) (fun _ => rfl)
    (fun pre W => ((∃ v, Boxed W (w.heap.size + 1) 25 v ∧ W.ownsRow w.heap.size 3 1 v pre.length (pre.map (Value.int .i64)) ∧ True) ∧ Blk W (w.heap.size + 1 + 1) 24 #[.int .u64 x, .int .u64 y]) ∧ Below w.heap.size w W)
    (fun _ _ _ => False)
    (OwnFrom.and (OwnFrom.and (Own.from (holdsRow_own w.heap.size (w.heap.size + 1) 25 3 1 (fun pre : List Int => pre.length) (fun pre : List Int => pre.map (Value.int .i64)) (fun _ _ => True)) _) (Own.from (blk_own _ _ _) _)) (ownFrom_below (Nat.le_refl _) (by omega)))
    (fun _ _ _ _ _ hs _ _ => hs)
    ⟨⟨⟨_, bO, World.ownsRow_nil _ _ _ _, trivial⟩, bN⟩, BE⟩
    (fun z => { tmps := #[.agg #[.int .u64 x, .int .u64 y], .pointer (some ⟨w.heap.size, 0, none⟩), .slice none 0 0, .pointer (some ⟨w.heap.size + 1, 0, none⟩), .func (.func 89) #[] #[.pointer (some ⟨w.heap.size + 1 + 1, 0, none⟩)], .int .i64 z, .agg #[.int .u64 x, .int .u64 y], .func (.func 89) #[] #[.pointer (some ⟨w.heap.size + 1 + 1, 0, none⟩)], .func (.func 89) #[] #[.pointer (some ⟨w.heap.size + 1 + 1, 0, none⟩)], .bool false, .func (.func 89) #[] #[.pointer (some ⟨w.heap.size + 1 + 1, 0, none⟩)], .int .i64 z, undef, undef, undef, undef, undef], defers := [] }) ?assign ?body ?done ?stop
  case assign =>
    intro l z W K hK
    gi_wp2
    exact hK
  case body =>
    rintro l pre z W ⟨⟨⟨v, hv, hrow, _⟩, hBN⟩, hB⟩ hlt
    have hc := hv.cell
    gi_wp2_with (gi_at_builtin; refine wpListIn_append_own _ rfl _ _ 25 rfl w.heap.size 3 i0 (.int .i64 0) 1 8 Tryd.underlying25 hi hz0 hz1 hz2 rfl (by decide) _ _ _ rfl (hrow.alloc _) ⟨W.heap.size, 0, none⟩ 1 1 [.int .i64 z] rfl rfl (cell_one_new _ _ _) (by simp [Value.oneCell']) (by unfold maxLen; omega) (by omega) (by have := hB.size; simp; omega) ?_; intro v' w1 hown' hgrow _; obtain ⟨g', cap', rfl⟩ := ownsRow_succ hown'; obtain ⟨hv1, hv2, hr2, hk2, hb2⟩ := hv.appended (by decide) hrow hB.size (by omega) hown' hgrow; have hbn := (hgrow.block _ (hBN.alloc (.cells #[.int .i64 z] 3)).lt (hBN.not_row (by decide) hrow)).trans (hBN.alloc (.cells #[.int .i64 z] 3)); have hc1 := hv1.cell; have hf1 := hv1.frozen)
    have hbn2 : Blk (w1.setCell ⟨w.heap.size + 1, 0, none⟩ (.slice (some ⟨g', 0, none⟩) (pre.length + 1) cap')) (w.heap.size + 1 + 1) 24 #[.int .u64 x, .int .u64 y] := Blk.far hbn (by show w.heap.size + 1 + 1 ≠ w.heap.size + 1; omega) _
    exact ⟨hk2, ⟨hb2, hbn2.trans hBN.symm⟩, ⟨⟨_, hv2, by simpa using hr2, trivial⟩, hbn2⟩, hB.trans hb2⟩
  case done =>
    rintro D ys W hD rfl ⟨⟨⟨v, hv, hrow, _⟩, _⟩, hB⟩ hK
    have hc := hv.cell
    gi_wp2
    refine ⟨by simp, .inl ⟨_, _, rfl, run_takeDeferred hK, ?_⟩⟩
    obtain ⟨B, cc, hvv, hR⟩ := ownR_rd (ownsRow_putObj hrow (.deferred none) hK rfl) (itL_wf F 128 (Nat.le_refl _))
    subst hvv
    have hlb := belowK_b (w := w) (Nat.le_refl _) W D _ (.deferred none) (by omega) hK rfl rfl
    exact ⟨_, results_tmp rfl _ _ _, _, _, rfl, hR, hB.trans hlb⟩
  case stop =>
    rintro D c pre W _ _ h _
    exact h.elim
end Go.Proofs.YtdcollehdhkngaaDoor
