/- Contracts of trip.Waits, Transits, Aboard and of the document's; Great. -/
import Derived.Test.YtcofafiacpecnaaRows
import Derived.Test.YtcofafiacpecnaaRowKit
import Derived.Test.YtcofafiacpecnaaRowS
import Derived.Test.YtcofafiacpecnaaRowZ
import Derived.Test.YtcofafiacpecnaaSlicesEq
import Derived.Test.YtcofafiacpecnaaRowL
import Derived.Test.YtcofafiacpecnaaTripMath
import Derived.Test.YtcofafiacpecnaaTripA
import Derived.WalkKit
import Derived.IntWalk
import Derived.Lib.Hide
import Derived.Lib.SmallJoins
import Derived.WalkSpells
import Derived.WalkLawsBesides
import Derived.Deep.QuietTactic
import Derived.Deep.RegionHeld3
import Derived.Deep.AppendLies
import Derived.BigQuiet
import Derived.Below
import Derived.OwnWalk
namespace Go.Proofs.Ytcofafiacpecnaa
open Go.RowKit
set_option linter.unusedSimpArgs false
set_option linter.unusedVariables false
theorem tinfo : (Try.prog.info? 3).map (fun i => (i.zero, i.size, i.bytes)) = some (some (.int .i64 0), 1, 8) := by kernel_rfl
theorem ownR_below {w w' : World} {base : Nat} {e : TypeId} {size : Nat} {v : Value} {n : Nat} {xs : List Value} (h : w.ownsRow base e size v n xs) (hb : Below w.heap.size w w') : w'.ownsRow base e size v n xs :=
  h.kept (row := none) ⟨hb.os, hb.tape, hb.output, hb.size, fun i hi _ => hb.block i hi⟩ (by cases hv : v.ownBlock <;> simp)
/-- the fields lie within bounds -/
def TBd (z : Nat → Nat → Int) (n : Nat) : Prop := ∀ i, i < n → (-1 ≤ z i 1 ∧ z i 1 ≤ 1073741824) ∧ (-1 ≤ z i 5 ∧ z i 5 ≤ 1073741824) ∧ (-1 ≤ z i 6 ∧ z i 6 ≤ 1073741824)
def OwnD (w : World) (base : Nat) (z : Nat → Nat → Int) (x y k : Nat) (v : Value) : Prop := w.ownsRow base 3 1 v (doneV z x y k).length ((doneV z x y k).map (Value.int .i64))
theorem ownD_zero (w : World) (base : Nat) (z : Nat → Nat → Int) (x y : Nat) : OwnD w base z x y 0 (.slice none 0 0) := World.ownsRow_nil _ _ _ _
theorem ownD_yes {w : World} {base : Nat} {z : Nat → Nat → Int} {x y k : Nat} {v : Value} {L : List Int} {d : Int} (hL : doneV z x y k = L) (h6 : 0 ≤ z k 6) (hd : z k x - z k y = d) (h : w.ownsRow base 3 1 v (L.length + 1) (L.map (Value.int .i64) ++ [.int .i64 d])) : OwnD w base z x y (k + 1) v := by
  unfold OwnD
  rw [done_yes h6, hL, hd, List.length_append, List.map_append]
  exact h
theorem ownD_no {w : World} {base : Nat} {z : Nat → Nat → Int} {x y k : Nat} {v : Value} (h6 : ¬ 0 ≤ z k 6) (h : OwnD w base z x y k v) : OwnD w base z x y (k + 1) v := by
  unfold OwnD at *
  rw [done_no h6]
  exact h
/-- a row that the call made is answered -/
def MadeL (L : List Int) (w : World) (e : Ending) (w' : World) : Prop := ∃ v, e = .returned v ∧ w'.ownsRow w.heap.size 3 1 v L.length (L.map (Value.int .i64)) ∧ Below w.heap.size w w'
theorem slice_of_own {w : World} {base : Nat} {e : TypeId} {v : Value} {n : Nat} {xs : List Value} (h : w.ownsRow base e 1 v n xs) : ∃ (g : Option Addr) (cap : Nat), v = .slice g n cap := by
  rcases h.2 with ⟨rfl, h0⟩ | ⟨g, cap, _, rfl, _⟩
  · exact ⟨none, 0, by rw [h0]⟩
  · exact ⟨_, cap, rfl⟩
end Go.Proofs.Ytcofafiacpecnaa
