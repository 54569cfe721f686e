/- The walk of HistSums: it answers true for every input, and leaves all old blocks as they were. No condition. -/
import Derived.Test.YtnjdeikikdieoaaRows
import Derived.Test.YtnjdeikikdieoaaRowKit
import Derived.Test.YtnjdeikikdieoaaHistF
import Derived.Test.YtnjdeikikdieoaaHistG
import Derived.WalkKit
import Derived.ProofKit
import Derived.OpenShut
import Derived.Deep.QuietTactic
import Derived.BigQuiet
import Derived.Lib.SmallJoins
import Derived.Lib.Hide
import Derived.WalkSpells
import Derived.WalkLawsBesides
import Derived.IntWalk
namespace Go.Proofs.Ytnjdeikikdieoaa.histSums
open Go.ChangeShapes Go.WideShapes Go.ChangeAt Go.RowKit Go.Joins
set_option linter.unusedSimpArgs false
set_option linter.unusedVariables false

set_option maxRecDepth 100000 in
set_option maxHeartbeats 4000000 in
theorem walk {A B : Option Addr} {ca cb : Nat} {a b : List Int} {kk : Int} {w : World} (h1 : a.length ≤ ca) (h2 : ca ≤ maxLen) (hra : RdI w .i64 A a ∧ (A = none → ca = 0)) (h3 : b.length ≤ cb) (h4 : cb ≤ maxLen) (hrb : RdI w .i64 B b ∧ (B = none → cb = 0)) (wk : (Lit.int .i64 kk).wf = true) :
    Calls Try.prog 6 #[.slice A a.length ca, .slice B b.length cb, .int .i64 kk] w fun e w' => e = .returned (.bool true) ∧ Below w.heap.size w w' := by
  by_cases g1 : 100 < a.length
  · have g1' : (100 : Int) < (a.length : Int) := by omega
    clear hra hrb
    go_enter Try.func6, Try.ntmps6
    go_wp2_with fail
    go_ret
    exact ⟨rfl, Below.refl _ _⟩
  by_cases g2 : 100 < b.length
  · have g1' : ¬ (100 : Int) < (a.length : Int) := by omega
    have g2' : (100 : Int) < (b.length : Int) := by omega
    clear hra hrb
    go_enter Try.func6, Try.ntmps6
    go_wp2_with fail
    go_ret
    exact ⟨rfl, Below.refl _ _⟩
  by_cases hk : kk < 1
  · exact walk_bad h1 h2 hra h3 h4 hrb wk (by omega) (by omega) hk
  · exact walk_ok h1 h2 hra h3 h4 hrb wk (by omega) (by omega) (by omega)


end Go.Proofs.Ytnjdeikikdieoaa.histSums
