/- Legs that came in, as functions of their numbers. -/
import Derived.Test.YtobeppajomhfjacDoorRows
import Derived.Test.YtobeppajomhfjacDoorRowKit
import Derived.Test.YtobeppajomhfjacDoorRowS
import Derived.Test.YtobeppajomhfjacDoorRowZ
import Derived.Test.YtobeppajomhfjacDoorRowV
import Derived.Test.YtobeppajomhfjacDoorRowW
import Derived.Test.YtobeppajomhfjacDoorGanttMath
import Derived.WalkKit
namespace Go.Proofs.YtobeppajomhfjacDoor
open Go.RowKit
set_option linter.unusedVariables false
def boolOf : Value → Bool
  | .bool b => b
  | _ => false
def numOf : Value → Int
  | .int _ a => a
  | _ => 0
/-- a leg's fields, by its numbers -/
def legV (T P D : Nat → Int) (O : Nat → Bool) (i j : Nat) : Value := if j = 0 then .int .i64 (T i) else if j = 1 then .int .i64 (P i) else if j = 2 then .int .i64 (D i) else .bool (O i)
/-- legs that lie somewhere -/
def RdL (w : World) (A : Option Addr) (n : Nat) (T P D : Nat → Int) (O : Nat → Bool) : Prop := RdV w 4 shLeg A n (legV T P D O)
theorem RdL.kept {w w' : World} {A : Option Addr} {n : Nat} {T P D : Nat → Int} {O : Nat → Bool} (h : RdL w A n T P D O) (hb : Below w.heap.size w w') : RdL w' A n T P D O := RdV.kept h hb
theorem rdL_of {w : World} {A : Option Addr} {n : Nat} {v : Nat → Nat → Value} (h : RdV w 4 shLeg A n v) :
    RdL w A n (fun i => numOf (v i 0)) (fun i => numOf (v i 1)) (fun i => numOf (v i 2)) (fun i => boolOf (v i 3)) := by
  intro i hi
  obtain ⟨t, p, d, b, e0, e1, e2, e3, _, _, _⟩ := leg_at h hi
  obtain ⟨a, ea, hlt, hc⟩ := h i hi
  refine ⟨a, ea, hlt, fun j hj => ?_⟩
  have key : v i j = legV (fun i => numOf (v i 0)) (fun i => numOf (v i 1)) (fun i => numOf (v i 2)) (fun i => boolOf (v i 3)) i j := by
    rcases j with _ | _ | _ | _ | j
    · rw [e0]; simp [legV, e0, numOf]
    · rw [e1]; simp [legV, e1, numOf]
    · rw [e2]; simp [legV, e2, numOf]
    · rw [e3]; simp [legV, e3, boolOf]
    · omega
  rw [← key]
  exact hc j hj
theorem rdL_row {w : World} {A : Option Addr} {n : Nat} {T P D : Nat → Int} {O : Nat → Bool} (h : RdL w A n T P D O) (hn : 0 < n) :
    ∃ b off, A = some ⟨b, off, none⟩ ∧ b < w.heap.size ∧ ∀ i, i < n → w.cell? ⟨b, off + i * 4, none⟩ = some (.int .i64 (T i)) ∧ w.cell? ⟨b, off + i * 4 + 1, none⟩ = some (.int .i64 (P i)) ∧
      w.cell? ⟨b, off + i * 4 + 2, none⟩ = some (.int .i64 (D i)) ∧ w.cell? ⟨b, off + i * 4 + 3, none⟩ = some (.bool (O i)) := by
  obtain ⟨b, off, e, hlt, hc⟩ := rdV_row h (by omega) hn
  refine ⟨b, off, e, hlt, fun i hi => ⟨?_, ?_, ?_, ?_⟩⟩
  · exact hc i 0 hi (by omega)
  · exact hc i 1 hi (by omega)
  · exact hc i 2 hi (by omega)
  · exact hc i 3 hi (by omega)
theorem rdL_wf {w : World} {A : Option Addr} {n : Nat} {T P D : Nat → Int} {O : Nat → Bool} (h : RdL w A n T P D O) {i : Nat} (hi : i < n) :
    (-9223372036854775808 ≤ T i ∧ T i ≤ 9223372036854775807) ∧ (-9223372036854775808 ≤ P i ∧ P i ≤ 9223372036854775807) ∧ (-9223372036854775808 ≤ D i ∧ D i ≤ 9223372036854775807) := by
  obtain ⟨t, p, d, b, e0, e1, e2, e3, w0, w1, w2⟩ := leg_at h hi
  have f0 : T i = t := by simpa [legV] using e0
  have f1 : P i = p := by simpa [legV] using e1
  have f2 : D i = d := by simpa [legV] using e2
  rw [f0, f1, f2]
  exact ⟨bounds_i64 w0, bounds_i64 w1, bounds_i64 w2⟩
/-- legs that are none too great -/
def FineL (T P D : Nat → Int) (n : Nat) : Prop := n ≤ 60 ∧ Rises T n ∧ ∀ i, i < n → -1 ≤ D i ∧ D i ≤ 1 ∧ -1073741824 ≤ P i ∧ P i ≤ 1073741824 ∧ -1073741824 ≤ T i ∧ T i ≤ 1073741824
theorem dmul_bd {d x B : Int} (h1 : -1 ≤ d) (h2 : d ≤ 1) (h3 : -B ≤ x) (h4 : x ≤ B) : -B ≤ d * x ∧ d * x ≤ B := by
  rcases (show d = -1 ∨ d = 0 ∨ d = 1 by omega) with rfl | rfl | rfl <;> omega
end Go.Proofs.YtobeppajomhfjacDoor
