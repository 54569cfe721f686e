/- The walk of PackPuts: it answers true for every input, and leaves all old blocks as they were. No condition. -/
import Derived.Test.YtkepplkfjcoemaaRows
import Derived.Test.YtkepplkfjcoemaaRowKit
import Derived.Test.YtkepplkfjcoemaaRowKit2
import Derived.Test.YtkepplkfjcoemaaSlicesEq
import Derived.Test.YtkepplkfjcoemaaRowL
import Derived.Test.YtkepplkfjcoemaaPackA
import Derived.Test.YtkepplkfjcoemaaPackB
import Derived.Test.YtkepplkfjcoemaaPackC
import Derived.Test.YtkepplkfjcoemaaPackD
import Derived.Test.YtkepplkfjcoemaaPackE
import Derived.Test.YtkepplkfjcoemaaPackF
import Derived.WalkKit
import Derived.ProofKit
import Derived.OpenShut
import Derived.Deep.QuietTactic
import Derived.BigQuiet
import Derived.Lib.SmallJoins
import Derived.Lib.Hide
import Derived.WalkSpells
import Derived.WalkLawsBesides
import Derived.IntWalk
namespace Go.Proofs.Ytkepplkfjcoemaa.packPuts
open Go.ChangeShapes Go.WideShapes Go.ChangeAt Go.RowKit Go.Joins
set_option linter.unusedSimpArgs false
set_option linter.unusedVariables false

set_option maxRecDepth 100000 in
set_option maxHeartbeats 1000000 in
theorem walk_long1 (A : Option Addr) (c m : Nat) (n : Int) (s : ByteArray) (w : World) (h : 300 < m) :
    Calls Try.prog 3 #[.slice A m c, .int .i64 n, .string s] w fun e w' => e = .returned (.bool true) ∧ Below w.heap.size w w' := by
  have k1 : (300 : Int) < (m : Int) := by omega
  go_enter Try.func3, Try.ntmps3
  go_wp2_with fail
  go_ret
  exact ⟨rfl, RowKit.Below.refl _ _⟩
set_option maxRecDepth 100000 in
set_option maxHeartbeats 1000000 in
theorem walk_long2 (A : Option Addr) (c m : Nat) (n : Int) (s : ByteArray) (w : World) (h0 : m ≤ 300) (h : 300 < s.size) :
    Calls Try.prog 3 #[.slice A m c, .int .i64 n, .string s] w fun e w' => e = .returned (.bool true) ∧ Below w.heap.size w w' := by
  have k1 : ¬ (300 : Int) < (m : Int) := by omega
  have k2 : (300 : Int) < (s.size : Int) := by omega
  go_enter Try.func3, Try.ntmps3
  go_wp2_with fail
  go_ret
  exact ⟨rfl, RowKit.Below.refl _ _⟩
theorem walk {w : World} {A : Option Addr} {c : Nat} {zs : List Int} {n : Int} {s : ByteArray} (l0 : zs.length ≤ c) (m0 : c ≤ maxLen) (hr : RdI w .u8 A zs ∧ (A = none → c = 0)) (w1 : (Lit.int .i64 n).wf = true) (w2 : s.size ≤ maxLen) :
    Calls Try.prog 3 #[.slice A zs.length c, .int .i64 n, .string s] w fun e w' => e = .returned (.bool true) ∧ Below w.heap.size w w' := by
  obtain ⟨b0, b1⟩ := bounds_i64 w1
  obtain ⟨hr, hc⟩ := hr
  by_cases hz : 300 < zs.length
  · exact walk_long1 A c zs.length n s w hz
  by_cases hs : 300 < s.size
  · exact walk_long2 A c zs.length n s w (by omega) hs
  cases A with
  | none =>
    have hc0 := hc rfl
    subst hc0
    have hz0 : zs.length = 0 := by omega
    rw [hz0]
    exact law_nil n s w (by omega) b0 b1
  | some a => exact law_some a c zs n s w (by omega) (by omega) hr b0 b1

end Go.Proofs.Ytkepplkfjcoemaa.packPuts
