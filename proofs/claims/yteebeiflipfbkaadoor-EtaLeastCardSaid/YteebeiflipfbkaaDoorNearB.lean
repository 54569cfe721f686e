/- Contracts of near.Cost and of the law's example. -/
import Derived.Test.YteebeiflipfbkaaDoorRows
import Derived.Test.YteebeiflipfbkaaDoorRowKit
import Derived.Test.YteebeiflipfbkaaDoorSlicesEq
import Derived.Test.YteebeiflipfbkaaDoorCmp
import Derived.Test.YteebeiflipfbkaaDoorPlaceA
import Derived.Test.YteebeiflipfbkaaDoorNearMath
import Derived.Test.YteebeiflipfbkaaDoorNearA
import Derived.WalkKit
import Derived.IntWalk
import Derived.Lib.Hide
import Derived.WalkSpells
import Derived.WalkLawsBesides
import Derived.Deep.QuietTactic
import Derived.BigQuiet
import Derived.Below
namespace Go.Proofs.YteebeiflipfbkaaDoor
open Go.RowKit
set_option linter.unusedSimpArgs false
set_option linter.unusedVariables false
/-- a call's cost: how far; one that goes away two heights more, one that goes the other way one -/
def costV (p m t d dir : Int) : Int := if d = 0 then farV p m else if cmpI m p = -d then farV p m + 2 * t else if dir = d then farV p m else farV p m + t
def scnV (s : Nat → Int) (A : Option Addr) (n c : Nat) : Value := .agg #[.int .i64 (s 0), .int .i64 (s 1), .int .i64 (s 2), .int .i64 (s 3), .int .i64 (s 4), .int .i64 (s 5), .int .i64 (s 6), .int .i64 (s 7), .slice A n c, .int .i64 (s 9), .int .i64 (s 10), .int .i64 (s 11), .int .i64 (s 12)]
def carV (p d m l : Int) (b : Bool) (R : Value) : Value := .agg #[.int .i64 p, .int .i64 d, .int .i64 m, .int .i64 l, .bool b, R]
theorem far_bd {p m : Int} (p0 : 0 ≤ p) (p1 : p ≤ 1048576) (m0 : 0 ≤ m) (m1 : m ≤ 1048576) : 0 ≤ farV p m ∧ farV p m ≤ 1048576 := by unfold farV; split <;> omega
end Go.Proofs.YteebeiflipfbkaaDoor
