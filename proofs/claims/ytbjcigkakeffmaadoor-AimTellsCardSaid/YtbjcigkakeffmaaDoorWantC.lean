/- want.Between, and the document's. -/
import Derived.RangeFuncBox
import Derived.RangeFuncNested
import Derived.RangeFuncBound
import Derived.RangeFuncCalls
import Derived.RangeFuncLeaves
import Derived.Shelf.Abstract
import Derived.Shelf.RegionOpen
import Derived.WalkKit
import Derived.OwnWalkIn
import Derived.TacticsInMore
import Derived.LoopNIn
import Derived.LoopIn
import Derived.Maps.AppendAt
import Derived.Lib.Hide
import Derived.Test.YtbjcigkakeffmaaDoorRows
import Derived.Test.YtbjcigkakeffmaaDoorKitM
import Derived.Test.YtbjcigkakeffmaaDoorBitM
import Derived.Test.YtbjcigkakeffmaaDoorBitsU
import Derived.Test.YtbjcigkakeffmaaDoorBitsV
import Derived.Test.YtbjcigkakeffmaaDoorBitsWa
import Derived.Test.YtbjcigkakeffmaaDoorWantA
import Derived.IntWalk
import Derived.WalkSpells
import Derived.WalkLawsBesides
import Derived.Deep.LoopGhost
import Derived.BigQuiet
namespace Go.Proofs.YtbjcigkakeffmaaDoor
open Go.RowKit Go.Shelf
set_option linter.unusedSimpArgs false
set_option linter.unusedVariables false
attribute [local go_sem] Oper.semAt_some
theorem blk_ownf {β : Type} (B : Nat) (t : TypeId) (f : β → Array Value) : Own (fun s W => Blk W B t (f s)) := by
  rintro s X Y row hv hg hrow
  refine (hg.block B hv.lt ?_).trans hv
  intro e'
  obtain ⟨o, ho, hc⟩ := hrow B e'.symm
  rw [show X.heap[B]? = _ from hv] at ho; cases ho; cases hc
/-- does a number lie between two? how many of a row do? -/
def btC (a b z : Int) : Bool := decide (min a b < z) && decide (z < max a b)
def btP (a b : Int) (pre : List Int) : Nat := (pre.filter (btC a b)).length
theorem btP_yes {a b z : Int} (pre : List Int) (h : btC a b z = true) : btP a b (pre ++ [z]) = btP a b pre + 1 := by unfold btP; rw [List.filter_append]; simp [h]
theorem btP_no {a b z : Int} (pre : List Int) (h : btC a b z = false) : btP a b (pre ++ [z]) = btP a b pre := by unfold btP; rw [List.filter_append]; simp [h]
theorem btP_le (a b : Int) (pre : List Int) : btP a b pre ≤ pre.length := List.length_filter_le _ _
theorem btC_cases (a b z : Int) : (btC a b z = true ∧ min a b < z ∧ z < max a b) ∨ (btC a b z = false ∧ z ≤ min a b) ∨ (btC a b z = false ∧ min a b < z ∧ max a b ≤ z) := by
  unfold btC
  by_cases h1 : min a b < z
  · by_cases h2 : z < max a b
    · exact .inl ⟨by rw [decide_eq_true h1, decide_eq_true h2]; rfl, h1, h2⟩
    · exact .inr (.inr ⟨by rw [decide_eq_false h2, Bool.and_false], h1, by omega⟩)
  · exact .inr (.inl ⟨by rw [decide_eq_false h1, Bool.false_and], by omega⟩)
set_option maxRecDepth 100000 in
set_option maxHeartbeats 2000000 in
theorem between_any (F : Nat → Bool) (a b : Int) (w : World) (hT : TzT w) :
    Calls Tryd.prog 39 #[setV F, .int .i64 a, .int .i64 b] w fun e w' => e = .returned (.int .i64 (btP a b (itL F 128))) ∧ Below w.heap.size w w' := by
  have AS := fun w1 hB hW => all_stops F 3 (w.heap.size + 1 + 1 + 1 + 1) w w1 hT hB hW
  have IL := itL_len F 128
  unfold setV
  obtain ⟨x, hX⟩ : ∃ x, wordX F = x := ⟨_, rfl⟩
  obtain ⟨y, hY⟩ : ∃ y, wordY F = y := ⟨_, rfl⟩
  rw [hX, hY] at AS ⊢
  have ASh := Lib.hid AS
  clear AS hX hY
  refine (callsIn_wide (n := 5)).1 ?_
  refine callsIn_of_wp_marks Tryd.func39 rfl trivial ?_ rfl
  simp only [Tryd.ntmps39, List.size_toArray, List.length_cons, List.length_nil, Nat.reduceAdd, Nat.reduceSub, Array.replicate_succ, Array.replicate_zero, List.push_toArray, List.append_toArray, List.nil_append, List.cons_append]
  gi_wp2
  refine ⟨trivial, ?_⟩
  refine (callsIn_wide.2 (allc_any x y _)).mono ?_
  rintro e w1 ⟨rfl, rfl⟩
  gi_wp2
  have bA : Blk (((((w.alloc (.cells #[.int .u64 x, .int .u64 y] 40)).alloc (.cells #[.int .i64 a] 3)).alloc (.cells #[.int .i64 b] 3)).alloc (.cells #[.int .i64 0] 3)).alloc (.cells #[.int .u64 x, .int .u64 y] 40)) (w.heap.size + 1) 3 #[.int .i64 a] := by
    have := (((Blk.new (w.alloc (.cells #[.int .u64 x, .int .u64 y] 40)) #[.int .i64 a] 3).alloc (.cells #[.int .i64 b] 3)).alloc (.cells #[.int .i64 0] 3)).alloc (.cells #[.int .u64 x, .int .u64 y] 40)
    rwa [World.size_alloc] at this
  have bB : Blk (((((w.alloc (.cells #[.int .u64 x, .int .u64 y] 40)).alloc (.cells #[.int .i64 a] 3)).alloc (.cells #[.int .i64 b] 3)).alloc (.cells #[.int .i64 0] 3)).alloc (.cells #[.int .u64 x, .int .u64 y] 40)) (w.heap.size + 1 + 1) 3 #[.int .i64 b] := by
    have := ((Blk.new ((w.alloc (.cells #[.int .u64 x, .int .u64 y] 40)).alloc (.cells #[.int .i64 a] 3)) #[.int .i64 b] 3).alloc (.cells #[.int .i64 0] 3)).alloc (.cells #[.int .u64 x, .int .u64 y] 40)
    rwa [World.size_alloc, World.size_alloc] at this
  have bM : Blk (((((w.alloc (.cells #[.int .u64 x, .int .u64 y] 40)).alloc (.cells #[.int .i64 a] 3)).alloc (.cells #[.int .i64 b] 3)).alloc (.cells #[.int .i64 0] 3)).alloc (.cells #[.int .u64 x, .int .u64 y] 40)) (w.heap.size + 1 + 1 + 1) 3 #[.int .i64 0] := by
    have := (Blk.new (((w.alloc (.cells #[.int .u64 x, .int .u64 y] 40)).alloc (.cells #[.int .i64 a] 3)).alloc (.cells #[.int .i64 b] 3)) #[.int .i64 0] 3).alloc (.cells #[.int .u64 x, .int .u64 y] 40)
    rwa [World.size_alloc, World.size_alloc, World.size_alloc] at this
  have bN : Blk (((((w.alloc (.cells #[.int .u64 x, .int .u64 y] 40)).alloc (.cells #[.int .i64 a] 3)).alloc (.cells #[.int .i64 b] 3)).alloc (.cells #[.int .i64 0] 3)).alloc (.cells #[.int .u64 x, .int .u64 y] 40)) (w.heap.size + 1 + 1 + 1 + 1) 40 #[.int .u64 x, .int .u64 y] := by
    have := Blk.new ((((w.alloc (.cells #[.int .u64 x, .int .u64 y] 40)).alloc (.cells #[.int .i64 a] 3)).alloc (.cells #[.int .i64 b] 3)).alloc (.cells #[.int .i64 0] 3)) #[.int .u64 x, .int .u64 y] 40
    rwa [World.size_alloc, World.size_alloc, World.size_alloc, World.size_alloc] at this
  have BE : Below w.heap.size w (((((w.alloc (.cells #[.int .u64 x, .int .u64 y] 40)).alloc (.cells #[.int .i64 a] 3)).alloc (.cells #[.int .i64 b] 3)).alloc (.cells #[.int .i64 0] 3)).alloc (.cells #[.int .u64 x, .int .u64 y] 40)) := ((((((Below.refl w.heap.size w).alloc (Nat.le_refl _) _).alloc (by simp) _).alloc (by simp; omega) _).alloc (by simp; omega) _).alloc (by simp; omega) _)
  obtain ⟨X, hX⟩ : ∃ X, (((((w.alloc (.cells #[.int .u64 x, .int .u64 y] 40)).alloc (.cells #[.int .i64 a] 3)).alloc (.cells #[.int .i64 b] 3)).alloc (.cells #[.int .i64 0] 3)).alloc (.cells #[.int .u64 x, .int .u64 y] 40)) = X := ⟨_, rfl⟩
  have hsz : X.heap.size = w.heap.size + 1 + 1 + 1 + 1 + 1 := by rw [← hX]; simp
  rw [hX] at bA bB bM bN BE ⊢
  clear hX
  refine wpIn_rangeFunc_ownF rfl (by omega) (gf := 62) (lb := #[.pointer (some ⟨w.heap.size + 1 + 1 + 1 + 1, 0, none⟩)]) rfl trivial (enters_of Tryd.func62 (by kernel_rfl) rfl)
    (ASh.out X bN BE) kpB_t (kpB_b (by omega) (by omega)) (Below.refl _ _) (fun _ => rfl)
    (fun pre W => (((Blk W (w.heap.size + 1 + 1 + 1) 3 #[.int .i64 (btP a b pre)] ∧ Blk W (w.heap.size + 1) 3 #[.int .i64 a]) ∧ Blk W (w.heap.size + 1 + 1) 3 #[.int .i64 b]) ∧ Blk W (w.heap.size + 1 + 1 + 1 + 1) 40 #[.int .u64 x, .int .u64 y]) ∧ Below w.heap.size w W)
    (fun _ _ _ => False)
    (OwnFrom.and (OwnFrom.and (OwnFrom.and (OwnFrom.and (Own.from (blk_ownf _ _ fun pre : List Int => #[.int .i64 (btP a b pre)]) _) (Own.from (blk_own _ _ _) _)) (Own.from (blk_own _ _ _) _)) (Own.from (blk_own _ _ _) _)) (ownFrom_below (Nat.le_refl _) (by omega)))
    (fun _ _ _ _ _ hs _ _ => hs)
    ⟨⟨⟨⟨bM, bA⟩, bB⟩, bN⟩, BE⟩
    (fun z => { tmps := #[.agg #[.int .u64 x, .int .u64 y], .int .i64 a, .int .i64 b, .pointer (some ⟨w.heap.size, 0, none⟩), .pointer (some ⟨w.heap.size + 1, 0, none⟩), .pointer (some ⟨w.heap.size + 1 + 1, 0, none⟩), .int .i64 0, .pointer (some ⟨w.heap.size + 1 + 1 + 1, 0, none⟩), .int .i64 z, .agg #[.int .u64 x, .int .u64 y], .func (.func 62) #[] #[.pointer (some ⟨w.heap.size + 1 + 1 + 1 + 1, 0, none⟩)], .int .i64 z, undef, undef, undef, undef, undef, undef, undef, undef, undef, undef, undef, undef, undef, undef, undef], defers := [] }) ?assign ?body ?done ?stop
  case assign =>
    intro l z W K hK
    gi_wp2
    exact hK
  case body =>
    rintro l pre z W ⟨⟨⟨⟨hM, hA⟩, hB⟩, hN⟩, hE⟩ hlt
    have hle := btP_le a b pre
    have Y := fun h => Lib.hid (btP_yes (a := a) (b := b) (z := z) pre h)
    have Nn := fun h => Lib.hid (btP_no (a := a) (b := b) (z := z) pre h)
    have CC := btC_cases a b z
    obtain ⟨q, hq⟩ : ∃ q, btP a b pre = q := ⟨_, rfl⟩
    rw [hq] at hM hle Y Nn
    have m0 := hM.cell 0
    have m1 := hM.frozen 0
    have a0 := hA.cell 0
    have b0 := hB.cell 0
    have HM := Lib.hid hM
    have HA := Lib.hid hA
    have HB := Lib.hid hB
    have HN := Lib.hid hN
    have HE := Lib.hid hE
    clear hq hM hA hB hN hE
    rcases (show a ≤ b ∨ b < a by omega) with hab | hab
    all_goals (
      first
        | rw [show min a b = a by omega, show max a b = b by omega] at CC
        | rw [show min a b = b by omega, show max a b = a by omega] at CC
      rcases CC with ⟨hc, h1, h2⟩ | ⟨hc, h1⟩ | ⟨hc, h1, h2⟩
      · have U := Y hc
        clear Y Nn hc
        gi_wp2
        all_goals (
          have hM2 := HM.out.set 0 (.int .i64 ((q : Int) + 1))
          have e1 : ((btP a b (pre ++ [z]) : Nat) : Int) = (q : Int) + 1 := by rw [U.out]; omega
          have hN2 : Blk (W.setCell ⟨w.heap.size + 1 + 1 + 1, 0, none⟩ (.int .i64 ((q : Int) + 1))) (w.heap.size + 1 + 1 + 1 + 1) 40 #[.int .u64 x, .int .u64 y] := HN.out.far (by show w.heap.size + 1 + 1 + 1 + 1 ≠ w.heap.size + 1 + 1 + 1; omega) _
          exact ⟨KeepsOthers.setCell _ _ _, ⟨(Below.refl w.heap.size W).setCell (p := ⟨w.heap.size + 1 + 1 + 1, 0, none⟩) (by show w.heap.size ≤ w.heap.size + 1 + 1 + 1; omega) _, hN2.trans HN.out.symm⟩, ⟨⟨⟨by rw [e1]; exact hM2, HA.out.far (by show w.heap.size + 1 ≠ w.heap.size + 1 + 1 + 1; omega) _⟩, HB.out.far (by show w.heap.size + 1 + 1 ≠ w.heap.size + 1 + 1 + 1; omega) _⟩, hN2⟩, HE.out.setCell (p := ⟨w.heap.size + 1 + 1 + 1, 0, none⟩) (by show w.heap.size ≤ w.heap.size + 1 + 1 + 1; omega) _⟩)
      · have U := Nn hc
        clear Y Nn hc
        gi_wp2
        all_goals exact ⟨KeepsOthers.refl _, ⟨Below.refl _ _, rfl⟩, ⟨⟨⟨by rw [U.out]; exact HM.out, HA.out⟩, HB.out⟩, HN.out⟩, HE.out⟩
      · have U := Nn hc
        clear Y Nn hc
        gi_wp2
        all_goals exact ⟨KeepsOthers.refl _, ⟨Below.refl _ _, rfl⟩, ⟨⟨⟨by rw [U.out]; exact HM.out, HA.out⟩, HB.out⟩, HN.out⟩, HE.out⟩)
  case done =>
    rintro D ys W hD rfl ⟨⟨⟨⟨hM, _⟩, _⟩, _⟩, hB⟩ hK
    have m0 := hM.cell 0
    gi_wp2
    refine ⟨by simp, .inl ⟨_, _, rfl, run_takeDeferred hK, ?_⟩⟩
    have hlb := belowK_b (w := w) (Nat.le_refl _) W D _ (.deferred none) (by omega) hK rfl rfl
    exact ⟨_, results_tmp rfl _ _ _, rfl, hB.trans hlb⟩
  case stop =>
    rintro D c pre W _ _ h _
    exact h.elim
end Go.Proofs.YtbjcigkakeffmaaDoor
