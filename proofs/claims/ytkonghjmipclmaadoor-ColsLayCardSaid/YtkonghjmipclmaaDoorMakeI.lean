/- Rows of int that the call made: how they begin, what they answer; slices.Equal of two such. -/
import Derived.Test.YtkonghjmipclmaaDoorRows
import Derived.Test.YtkonghjmipclmaaDoorRowKit
import Derived.Test.YtkonghjmipclmaaDoorSlicesEq
import Derived.Test.YtkonghjmipclmaaDoorSlicesEqM
import Derived.Test.YtkonghjmipclmaaDoorRowL
import Derived.WalkKit
import Derived.Lib.Hide
import Derived.Laws.CopyOwn
import Derived.Laws.MakeOwn
import Derived.Laws.OwnMore
namespace Go.Proofs.YtkonghjmipclmaaDoor
open Go.RowKit
set_option linter.unusedSimpArgs false
set_option linter.unusedVariables false
theorem mkInfo : (Tryd.prog.info? 3).map (fun i => (i.zero, i.size, i.bytes)) = some (some (.int .i64 0), 1, 8) := by kernel_rfl
theorem mkZeros (n : Nat) : (madeCells (Value.cells (.int .i64 0)) (n * 1)).toList = (rowL (fun _ => 0) n).map (Value.int .i64) := by
  rw [Nat.mul_one]
  show (madeCells #[Value.int .i64 0] n).toList = _
  rw [toList_madeCells_one]
  unfold rowL
  rw [List.map_map]
  apply List.ext_getElem
  · simp
  · intro i h1 h2; simp
/-- a row that the call made, and no error -/
def MadeR (n : Nat) (ys : List Int) (w : World) (e : Ending) (w' : World) : Prop := ∃ A c, e = .returned (.tuple #[.slice A n c, .int .i64 0]) ∧ RdI w' .i64 A ys ∧ Below w.heap.size w w'
/-- a row that the call made -/
def MadeS (n : Nat) (ys : List Int) (w : World) (e : Ending) (w' : World) : Prop := ∃ A c, e = .returned (.slice A n c) ∧ RdI w' .i64 A ys ∧ Below w.heap.size w w'
theorem rdI_drew {w : World} {k : IntKind} {A : Option Addr} {zs : List Int} (h : RdI w k A zs) (n : Nat) : RdI (w.drewN n) k A zs := h
theorem equal_int_n (A B : Option Addr) (c d n : Nat) (ys : List Int) (w : World) (hn : ys.length = n) (ha : RdI w .i64 A ys) (hb : RdI w .i64 B ys) (hl : n ≤ 9223372036854775807) :
    Calls Tryd.prog 7 #[.slice A n c, .slice B n d] w fun e w' => e = .returned (.bool true) ∧ ∃ k, w' = w.drewN k := by
  subst hn; exact equal_int A B c d ys w ha hb hl
theorem mkRow_put {w : World} {base : Nat} {e : TypeId} {g cap n : Nat} {k : IntKind} {a b : Nat → Int} (h : w.ownsRow base e 1 (.slice (some ⟨g, 0, none⟩) n cap) n ((rowL a n).map (Value.int k))) {j : Nat} {u : Int} (hs : (rowL a n).set j u = rowL b n) :
    (w.setCell ⟨g, j, none⟩ (.int k u)).ownsRow base e 1 (.slice (some ⟨g, 0, none⟩) n cap) n ((rowL b n).map (Value.int k)) := by
  have := (h.stored j (.int k u)).1
  rw [← List.map_set, hs] at this
  exact this
theorem mkOwn_below {w w' : World} {base : Nat} {e : TypeId} {size : Nat} {v : Value} {n : Nat} {xs : List Value} (h : w.ownsRow base e size v n xs) (hb : Below w.heap.size w w') : w'.ownsRow base e size v n xs :=
  h.kept (row := none) ⟨hb.os, hb.tape, hb.output, hb.size, fun i hi _ => hb.block i hi⟩ (by cases hv : v.ownBlock <;> simp)
theorem mkSlice {w : World} {base : Nat} {e : TypeId} {v : Value} {n : Nat} {xs : List Value} (h : w.ownsRow base e 1 v n xs) : ∃ (g : Option Addr) (cap : Nat), v = .slice g n cap := by
  rcases h.2 with ⟨rfl, h0⟩ | ⟨g, cap, _, rfl, _⟩
  · exact ⟨none, 0, by rw [h0]⟩
  · exact ⟨_, cap, rfl⟩
end Go.Proofs.YtkonghjmipclmaaDoor
