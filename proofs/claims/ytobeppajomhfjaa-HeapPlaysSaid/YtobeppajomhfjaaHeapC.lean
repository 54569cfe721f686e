/- The order of entries: cmp.Or of three, heap.compare. -/
import Derived.Test.YtobeppajomhfjaaHeapB
import Derived.Test.YtobeppajomhfjaaCmp
import Derived.Shelf.SlSortCmp.NoneTotal
import Derived.WalkKit
import Derived.IntWalk
import Derived.Lib.Hide
import Derived.WalkSpells
import Derived.WalkLawsBesides
import Derived.OwnWalk
import Derived.BigRegion
import Derived.Deep.LoopGhost
import Derived.Deep.RegionHeld3
import Derived.Deep.QuietTactic
import Derived.BigQuiet
namespace Go.Proofs.Ytobeppajomhfjaa
open Go.RowKit
set_option linter.unusedVariables false
set_option linter.unusedSimpArgs false
def or3 (x y z : Int) : Int := if x ≠ 0 then x else if y ≠ 0 then y else z
def OrR3 (x y : Int) (k : Nat) : Prop := (k = 1 → x = 0) ∧ (k = 2 → x = 0 ∧ y = 0) ∧ (k = 3 → x = 0 ∧ y = 0)
theorem or_three (g : Nat) (x y z : Int) (w : World) (h0 : w.cell? ⟨g, 0, none⟩ = some (.int .i64 x)) (h1 : w.cell? ⟨g, 1, none⟩ = some (.int .i64 y)) (h2 : w.cell? ⟨g, 2, none⟩ = some (.int .i64 z)) :
    Calls Try.prog 33 #[.slice (some ⟨g, 0, none⟩) 3 3] w fun e w' => e = .returned (.int .i64 (or3 x y z)) ∧ w = w' := by
  obtain ⟨r, hr⟩ : ∃ r, or3 x y z = r := ⟨_, rfl⟩
  have HR := Lib.hid hr
  rw [hr]
  clear hr
  go_enter Try.func33, Try.ntmps33
  go_wp2_with fail
  go_loop [8] (fun i => i = .int .i64 0 ∨ (i = .int .i64 1 ∧ Hid (x = 0)) ∨ (i = .int .i64 2 ∧ Hid (x = 0 ∧ y = 0)) ∨ (i = .int .i64 3 ∧ Hid (x = 0 ∧ y = 0 ∧ z = 0))) (fun i => 3 - (intOf i).toNat)
  case atStart => exact Or.inl rfl
  case round =>
    rcases hrel with rfl | ⟨rfl, H⟩ | ⟨rfl, H⟩ | ⟨rfl, H⟩
    · by_cases hx : x = 0
      · have hb : (x != 0) = false := by simp [hx]
        have X := Lib.hid hx
        clear hx
        go_wp2_with fail
        go_round
        case rel => exact Or.inr (Or.inl ⟨rfl, X⟩)
        case measure => simp [intOf]
      · have hb : (x != 0) = true := by simpa using hx
        have hrr : r = x := by rw [← HR.out]; unfold or3; rw [if_pos hx]
        have RR := Lib.hid hrr
        clear hx hrr
        go_wp2_with fail
        go_ret
        exact ⟨retI RR.out.symm, rfl⟩
    · by_cases hx : y = 0
      · have hb : (y != 0) = false := by simp [hx]
        have X := Lib.hid (And.intro H.out hx)
        clear hx
        go_wp2_with fail
        go_round
        case rel => exact Or.inr (Or.inr (Or.inl ⟨rfl, X⟩))
        case measure => simp [intOf]
      · have hb : (y != 0) = true := by simpa using hx
        have hrr : r = y := by rw [← HR.out]; unfold or3; rw [if_neg (by simpa using H.out), if_pos hx]
        have RR := Lib.hid hrr
        clear hx hrr
        go_wp2_with fail
        go_ret
        exact ⟨retI RR.out.symm, rfl⟩
    · by_cases hx : z = 0
      · have hb : (z != 0) = false := by simp [hx]
        have X := Lib.hid (And.intro H.out.1 (And.intro H.out.2 hx))
        clear hx
        go_wp2_with fail
        go_round
        case rel => exact Or.inr (Or.inr (Or.inr ⟨rfl, X⟩))
        case measure => simp [intOf]
      · have hb : (z != 0) = true := by simpa using hx
        have hrr : r = z := by rw [← HR.out]; unfold or3; rw [if_neg (by simpa using H.out.1), if_neg (by simpa using H.out.2)]
        have RR := Lib.hid hrr
        clear hx hrr
        go_wp2_with fail
        go_ret
        exact ⟨retI RR.out.symm, rfl⟩
    · have hrr : r = 0 := by rw [← HR.out]; unfold or3; rw [if_neg (by simpa using H.out.1), if_neg (by simpa using H.out.2.1)]; exact H.out.2.2
      have RR := Lib.hid hrr
      clear hrr
      go_wp2_with fail
      go_ret
      exact ⟨retI RR.out.symm, rfl⟩
def cfE (x y : Ent) : Int := or3 (cmpI x.1 y.1) (cmpI x.2.1 y.2.1) (cmpI x.2.2 y.2.2)
set_option maxRecDepth 100000 in
set_option maxHeartbeats 20000000 in
theorem ecompare_any (x y : Ent) (w : World) :
    Calls Try.prog 24 #[aE x, aE y] w fun e w' => e = .returned (.int .i64 (cfE x y)) ∧ ∃ q os', w' = Sort.grow (w.drewN q) os' := by
  obtain ⟨a, b, c⟩ := x
  obtain ⟨d, f, g⟩ := y
  unfold aE cfE
  dsimp only
  go_enter Try.func24, Try.ntmps24
  go_wp2_with fail
  go_region_held3 (fun W => W.cell? ⟨w.heap.size, 0, none⟩ = some (.int .i64 a) ∧ W.cell? ⟨w.heap.size, 1, none⟩ = some (.int .i64 b) ∧ W.cell? ⟨w.heap.size, 2, none⟩ = some (.int .i64 c) ∧ W.cell? ⟨w.heap.size + 1, 0, none⟩ = some (.int .i64 d) ∧ W.cell? ⟨w.heap.size + 1, 1, none⟩ = some (.int .i64 f) ∧ W.cell? ⟨w.heap.size + 1, 2, none⟩ = some (.int .i64 g))
    (go_keep)
    (first
      | (go_at_call_of 34 (Value.int IntKind.i64 a); refine (compareI a d _).mono ?_; rintro r w' ⟨rfl, rfl⟩)
      | (go_at_call_of 34 (Value.int IntKind.i64 b); refine (compareI b f _).mono ?_; rintro r w' ⟨rfl, rfl⟩)
      | (go_at_call_of 34 (Value.int IntKind.i64 c); refine (compareI c g _).mono ?_; rintro r w' ⟨rfl, rfl⟩)
      | (go_at_call 33; refine (or_three _ (cmpI a d) (cmpI b f) (cmpI c g) _ (by go_simp) (by go_simp) (by go_simp)).mono ?_; rintro r w' ⟨rfl, rfl⟩))
  all_goals go_wp2_with fail
  all_goals go_ret
  all_goals exact ⟨rfl, 1, _, by rw [Sort.alloc_eq_grow, Sort.alloc_eq_grow, Sort.alloc_eq_grow, Sort.grow_grow, Sort.grow_grow]; rfl⟩
end Go.Proofs.Ytobeppajomhfjaa
