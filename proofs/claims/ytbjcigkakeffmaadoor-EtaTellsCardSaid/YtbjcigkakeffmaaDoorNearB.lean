/- Contracts of near.Cost and of the law's example. -/
import Derived.Test.YtbjcigkakeffmaaDoorRows
import Derived.Test.YtbjcigkakeffmaaDoorKitM
import Derived.Test.YtbjcigkakeffmaaDoorCmp
import Derived.Test.YtbjcigkakeffmaaDoorPlaceA
import Derived.Test.YtbjcigkakeffmaaDoorNearMath
import Derived.Test.YtbjcigkakeffmaaDoorNearA
import Derived.WalkKit
import Derived.IntWalk
import Derived.Lib.Hide
import Derived.WalkSpells
import Derived.WalkLawsBesides
import Derived.Deep.QuietTactic
import Derived.BigQuiet
import Derived.Below
namespace Go.Proofs.YtbjcigkakeffmaaDoor
open Go.RowKit
set_option linter.unusedSimpArgs false
set_option linter.unusedVariables false
/-- a call's cost: how far; one that goes away two heights more, one that goes the other way one -/
def costV (p m t d dir : Int) : Int := if d = 0 then farV p m else if cmpI m p = -d then farV p m + 2 * t else if dir = d then farV p m else farV p m + t
def scnV (s : Nat → Int) (A : Option Addr) (n c : Nat) : Value := .agg #[.int .i64 (s 0), .int .i64 (s 1), .int .i64 (s 2), .int .i64 (s 3), .int .i64 (s 4), .int .i64 (s 5), .int .i64 (s 6), .int .i64 (s 7), .slice A n c, .int .i64 (s 9), .int .i64 (s 10), .int .i64 (s 11), .int .i64 (s 12)]
def carV (p d m l : Int) (b : Bool) (R : Value) : Value := .agg #[.int .i64 p, .int .i64 d, .int .i64 m, .int .i64 l, .bool b, R]
theorem far_bd {p m : Int} (p0 : 0 ≤ p) (p1 : p ≤ 1048576) (m0 : 0 ≤ m) (m1 : m ≤ 1048576) : 0 ≤ farV p m ∧ farV p m ≤ 1048576 := by unfold farV; split <;> omega
theorem least_eg (b : Nat) (w : World) (h0 : w.cell? ⟨b, 0, none⟩ = some (.int .i64 3)) (h1 : w.cell? ⟨b, 1, none⟩ = some (.int .i64 1)) (h2 : w.cell? ⟨b, 2, none⟩ = some (.int .i64 1)) :
    Calls Tryd.prog 35 #[.slice (some ⟨b, 0, none⟩) 3 3] w fun e w' => e = .returned (.int .i64 1) ∧ w = w' :=
  least_any (some ⟨b, 0, none⟩) 3 [3, 1, 1] w (rdI_mk (b := b) (off := 0) fun i hi => by
    have : i = 0 ∨ i = 1 ∨ i = 2 := by simp at hi; omega
    rcases this with rfl | rfl | rfl
    · exact ⟨h0, by decide⟩
    · exact ⟨h1, by decide⟩
    · exact ⟨h2, by decide⟩) (by decide)
theorem least_nil (w : World) : Calls Tryd.prog 35 #[.slice none 0 0] w fun e w' => e = .returned (.int .i64 (-1)) ∧ w = w' :=
  least_any none 0 [] w (fun i hi => by simp at hi) (by decide)
end Go.Proofs.YtbjcigkakeffmaaDoor
