/- Contracts of slices.Contains at int and of shuffle.Back. -/
import Derived.Test.YteebeiflipfbkaaRows
import Derived.Test.YteebeiflipfbkaaRowKit
import Derived.Test.YteebeiflipfbkaaSlicesEq
import Derived.Test.YteebeiflipfbkaaSlicesEqM
import Derived.Test.YteebeiflipfbkaaRowL
import Derived.Test.YteebeiflipfbkaaMakeI
import Derived.Test.YteebeiflipfbkaaShufMath
import Derived.WalkKit
import Derived.IntWalk
import Derived.Lib.Hide
import Derived.WalkSpells
import Derived.WalkLawsBesides
import Derived.Laws.CopyOwn
import Derived.Laws.MakeOwn
import Derived.Laws.OwnMore
import Derived.OwnWalk
import Derived.Deep.QuietTactic
import Derived.Deep.LoopGhost
import Derived.BigQuiet
namespace Go.Proofs.Yteebeiflipfbkaa
open Go.RowKit
set_option linter.unusedSimpArgs false
set_option linter.unusedVariables false
theorem sretB {a b : Bool} (h : a = b) : Ending.returned (.bool a) = .returned (.bool b) := by rw [h]
theorem svint {k : IntKind} {a b : Int} (h : a = b) : Value.int k a = .int k b := by rw [h]
/-- the place of a number among the first k; below 0: none -/
def fstV (z : Nat → Int) (x : Int) (k n : Nat) : Prop := k ≤ n ∧ ∀ j, j < k → z j ≠ x
theorem first_of {z : Nat → Int} {x : Int} : ∀ n, (∃ j, j < n ∧ z j = x) → ∃ m, m < n ∧ z m = x ∧ ∀ j, j < m → z j ≠ x
  | 0, ⟨j, hj, _⟩ => absurd hj (by omega)
  | n + 1, ⟨j, hj, e⟩ => by
    by_cases h : ∃ j, j < n ∧ z j = x
    · obtain ⟨m, hm, h1, h2⟩ := first_of n h; exact ⟨m, by omega, h1, h2⟩
    · have : j = n := by
        by_cases e2 : j = n
        · exact e2
        · exact absurd ⟨j, by omega, e⟩ h
      subst this
      exact ⟨j, by omega, e, fun i hi c => h ⟨i, hi, c⟩⟩
/-- a row in another block stays -/
theorem own_far {w : World} {base : Nat} {e : TypeId} {size : Nat} {v : Value} {n : Nat} {xs : List Value} (h : w.ownsRow base e size v n xs) {p : Addr} (hp : v.ownBlock ≠ some p.block) (u : Value) : (w.setCell p u).ownsRow base e size v n xs :=
  h.kept (row := some p.block) ⟨rfl, rfl, rfl, by simp [World.setCell], fun i hi hne => Below.heap_setCell w p u i (fun c => hne (by rw [c]))⟩ (.inr hp)
theorem binfo : (Try.prog.info? 4).map (fun i => (i.zero, i.size, i.bytes)) = some (some (.bool false), 1, 1) := by kernel_rfl
/-- a row of Bools -/
def rowB (f : Nat → Bool) (n : Nat) : List Value := (List.range n).map fun v => .bool (f v)
theorem rowB_zeros (n : Nat) : (madeCells (Value.cells (.bool false)) (n * 1)).toList = rowB (fun _ => false) n := by
  rw [Nat.mul_one]
  show (madeCells #[Value.bool false] n).toList = _
  rw [toList_madeCells_one]
  unfold rowB
  apply List.ext_getElem
  · simp
  · intro i h1 h2; simp
theorem rowB_congr {f g : Nat → Bool} {n : Nat} (h : ∀ i, i < n → f i = g i) : rowB f n = rowB g n := by
  unfold rowB; exact List.map_congr_left fun i hi => by rw [h i (List.mem_range.1 hi)]
theorem rowB_set (f : Nat → Bool) (k n : Nat) (u : Bool) : (rowB f n).set k (.bool u) = rowB (fun i => if i = k then u else f i) n := by
  apply List.ext_getElem
  · simp [rowB]
  · intro i h1 h2
    simp only [rowB, List.getElem_set, List.getElem_map, List.getElem_range]
    by_cases h : k = i
    · simp [h]
    · simp [h, Ne.symm h]
theorem rowB_cell {w : World} {base : Nat} {e : TypeId} {g cap n : Nat} {f : Nat → Bool} (h : w.ownsRow base e 1 (.slice (some ⟨g, 0, none⟩) n cap) n (rowB f n)) {i : Nat} (hi : i < n) : w.cell? ⟨g, i, none⟩ = some (.bool (f i)) := by
  rw [h.cellAt i (by omega)]
  unfold rowB
  simp [hi]
/-- the loop's relation -/
def BRow (z : Nat → Int) (n G k : Nat) (w wr : World) : Prop := wr.ownsRow w.heap.size 3 1 (.slice (some ⟨w.heap.size, 0, none⟩) n n) n ((rowL (backV z k) n).map (Value.int .i64)) ∧ wr.ownsRow w.heap.size 4 1 (.slice (some ⟨G, 0, none⟩) n n) n (rowB (toldV z k) n) ∧ Below w.heap.size w wr
theorem brow_put {z : Nat → Int} {n G k v : Nat} {w wr : World} (hG : w.heap.size ≠ G) (hGl : w.heap.size ≤ G) (hv : z k = v) (h : BRow z n G k w wr) : BRow z n G (k + 1) w ((wr.setCell ⟨w.heap.size, v, none⟩ (.int .i64 k)).setCell ⟨G, v, none⟩ (.bool true)) := by
  obtain ⟨h1, h2, hb⟩ := h
  refine ⟨?_, ?_, (hb.setCell (Nat.le_refl _) _).setCell hGl _⟩
  · have e : (rowL (backV z k) n).set v (k : Int) = rowL (backV z (k + 1)) n := by
      rw [rowL_set]
      refine rowL_congr fun i _ => ?_
      show (if i = v then (k : Int) else backV z k i) = _
      rw [back_succ, hv]
      by_cases c : i = v
      · rw [if_pos c, if_pos (by rw [c])]
      · rw [if_neg c, if_neg (fun d => c (by omega))]
    exact own_far (mkRow_put h1 e) (by show some w.heap.size ≠ some G; intro c; exact hG (Option.some.inj c)) _
  · have h2' := own_far h2 (p := ⟨w.heap.size, v, none⟩) (by show some G ≠ some w.heap.size; intro c; exact hG (Option.some.inj c).symm) (.int .i64 k)
    have h3 := (h2'.stored v (.bool true)).1
    rw [rowB_set] at h3
    rw [rowB_congr (g := fun i => if i = v then true else toldV z k i)]
    · exact h3
    · intro i _
      rw [told_succ, hv]
      by_cases c : i = v
      · rw [if_pos c, decide_eq_true (by rw [c])]; rfl
      · rw [if_neg c, decide_eq_false (by omega)]; rfl
theorem back_wf (z : Nat → Int) (n k : Nat) (hk : k ≤ 1000) : ∀ i, i < (rowL (backV z k) n).length → (Lit.int .i64 (zat (rowL (backV z k) n) i)).wf = true := by
  intro i hi
  rw [rowL_len] at hi
  rw [rowL_at _ hi]
  have : ∀ m, m ≤ k → 0 ≤ backV z m i ∧ backV z m i ≤ 1000 := by
    intro m
    induction m with
    | zero => intro _; rw [back_zero]; omega
    | succ m ih =>
      intro hm
      rw [back_succ]
      have := ih (by omega)
      split <;> omega
  have := this k (Nat.le_refl _)
  exact WalkArith.wf_i64 (by omega)
def BackR (n : Nat) (ys : List Int) (w : World) (e : Ending) (w' : World) : Prop := ∃ A c, e = .returned (.tuple #[.slice A n c, .bool true]) ∧ RdI w' .i64 A ys ∧ Below w.heap.size w w'
end Go.Proofs.Yteebeiflipfbkaa
