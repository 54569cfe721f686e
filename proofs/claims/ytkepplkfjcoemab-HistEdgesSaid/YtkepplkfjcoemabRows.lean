/-
  No cell of these rows narrows 'for every input' (looked for: loops, veiled, ifaces, maps, wideKeys, modest, calm, conditions, laid).
  DERIVED. THE GIVEN ROWS OF THIS SEAT. 12 by the template 'for every input the law returns true; each argument reads behind the call as it read before'; 0 by the template 'total and deterministic' (their statements: YtkepplkfjcoemabTotals.lean).
  GIVEN WITH THE SEED: the statements are not yours to turn. If you find one false, say at which input.
  Laid BY PROGRAM, IN A SANDBOX (cutbox-rows.mjs): the forced cells as the released guide's own fill.sh prints them over the translation 3348b895fab10eb5… (all of the seat's roots in one cut). By AI agents, Wed Nov 11 2026. No macro, syntax, notation, axiom, sorry.
-/
import Derived.Test.YtkepplkfjcoemabChecked
import GoSem.Claim
import GoSem.ClaimJoined
import GoSem.ClaimMapViews
import Derived.JoinedTies
import Derived.KernelRfl
namespace Go.Proofs.Ytkepplkfjcoemab
/- THE CELL 'sum', in the pinned program and in every row, IS THE sha256 OF THE DUMP (.gsa) THAT YtkepplkfjcoemabProg.lean LOADS. Nothing in Lean hashes anything: it is a label: what it is worth is what the hold of that sum in a sandbox is worth. -/
noncomputable def Try.pinned : Pinned := { name := "ytkepplkfjcoemab", sum := "3348b895fab10eb5fd4a8ca4d399e5ce8f5e01aedba6aa696f7dc46295a72a20", checked := Try.checked }
namespace Rows
def none {H : Type} : Left H := { results := [], args := [] }

/-- 'hoistwaylaw09.SpanSets': WHATEVER THE INPUT: true; the input reads as it did. -/
def spanSetsSpec : ChangeSpec := { name := "spanSets", fn := fun _ => fun
  | [d1, d2, d3] => { results := [.lit (.bool true)], args := [d1, d2, d3] }
  | _ => none }
def spanSetsRow : OpenClaim := { program := "ytkepplkfjcoemab", sum := "3348b895fab10eb5fd4a8ca4d399e5ce8f5e01aedba6aa696f7dc46295a72a20", func := "hoistway/hoistwaylaw09.SpanSets", spec := "spanSets", unfollowed := true, recurses := true, apart := false }
def SpanSetsSaid : Prop := spanSetsRow.holds Try.pinned (OpenSpec.ofChange spanSetsSpec)

/-- ITS FALSE NEIGHBOUR: 'it returns false'. Refute it at one input. -/
def spanSetsWrong : ChangeSpec := { name := "spanSets", fn := fun _ => fun
  | [d1, d2, d3] => { results := [.lit (.bool false)], args := [d1, d2, d3] }
  | _ => none }
def SpanSetsWrongFalsely : Prop := spanSetsRow.holds Try.pinned (OpenSpec.ofChange spanSetsWrong)

/-- 'hoistwaylaw09.SpanLens': WHATEVER THE INPUT: true; the input reads as it did. -/
def spanLensSpec : ChangeSpec := { name := "spanLens", fn := fun _ => fun
  | [d1, d2] => { results := [.lit (.bool true)], args := [d1, d2] }
  | _ => none }
def spanLensRow : OpenClaim := { program := "ytkepplkfjcoemab", sum := "3348b895fab10eb5fd4a8ca4d399e5ce8f5e01aedba6aa696f7dc46295a72a20", func := "hoistway/hoistwaylaw09.SpanLens", spec := "spanLens", unfollowed := true, recurses := true, apart := false }
def SpanLensSaid : Prop := spanLensRow.holds Try.pinned (OpenSpec.ofChange spanLensSpec)

/-- ITS FALSE NEIGHBOUR: 'it returns false'. Refute it at one input. -/
def spanLensWrong : ChangeSpec := { name := "spanLens", fn := fun _ => fun
  | [d1, d2] => { results := [.lit (.bool false)], args := [d1, d2] }
  | _ => none }
def SpanLensWrongFalsely : Prop := spanLensRow.holds Try.pinned (OpenSpec.ofChange spanLensWrong)

/-- 'hoistwaylaw11.CumulTables': WHATEVER THE INPUT: true; the input reads as it did. -/
def cumulTablesSpec : ChangeSpec := { name := "cumulTables", fn := fun _ => fun
  | [d] => { results := [.lit (.bool true)], args := [d] }
  | _ => none }
def cumulTablesRow : OpenClaim := { program := "ytkepplkfjcoemab", sum := "3348b895fab10eb5fd4a8ca4d399e5ce8f5e01aedba6aa696f7dc46295a72a20", func := "hoistway/hoistwaylaw11.CumulTables", spec := "cumulTables", apart := false }
def CumulTablesSaid : Prop := cumulTablesRow.holds Try.pinned (OpenSpec.ofChange cumulTablesSpec)

/-- ITS FALSE NEIGHBOUR: 'it returns false'. Refute it at one input. -/
def cumulTablesWrong : ChangeSpec := { name := "cumulTables", fn := fun _ => fun
  | [d] => { results := [.lit (.bool false)], args := [d] }
  | _ => none }
def CumulTablesWrongFalsely : Prop := cumulTablesRow.holds Try.pinned (OpenSpec.ofChange cumulTablesWrong)

/-- 'hoistwaylaw11.CumulTells': WHATEVER THE INPUT: true; the input reads as it did. -/
def cumulTellsSpec : ChangeSpec := { name := "cumulTells", fn := fun _ => fun
  | [d1, d2] => { results := [.lit (.bool true)], args := [d1, d2] }
  | _ => none }
def cumulTellsRow : OpenClaim := { program := "ytkepplkfjcoemab", sum := "3348b895fab10eb5fd4a8ca4d399e5ce8f5e01aedba6aa696f7dc46295a72a20", func := "hoistway/hoistwaylaw11.CumulTells", spec := "cumulTells", apart := false }
def CumulTellsSaid : Prop := cumulTellsRow.holds Try.pinned (OpenSpec.ofChange cumulTellsSpec)

/-- ITS FALSE NEIGHBOUR: 'it returns false'. Refute it at one input. -/
def cumulTellsWrong : ChangeSpec := { name := "cumulTells", fn := fun _ => fun
  | [d1, d2] => { results := [.lit (.bool false)], args := [d1, d2] }
  | _ => none }
def CumulTellsWrongFalsely : Prop := cumulTellsRow.holds Try.pinned (OpenSpec.ofChange cumulTellsWrong)

/-- 'hoistwaylaw11.CumulFair': WHATEVER THE INPUT: true; the input reads as it did. -/
def cumulFairSpec : ChangeSpec := { name := "cumulFair", fn := fun _ => fun
  | [d] => { results := [.lit (.bool true)], args := [d] }
  | _ => none }
def cumulFairRow : OpenClaim := { program := "ytkepplkfjcoemab", sum := "3348b895fab10eb5fd4a8ca4d399e5ce8f5e01aedba6aa696f7dc46295a72a20", func := "hoistway/hoistwaylaw11.CumulFair", spec := "cumulFair", apart := false }
def CumulFairSaid : Prop := cumulFairRow.holds Try.pinned (OpenSpec.ofChange cumulFairSpec)

/-- ITS FALSE NEIGHBOUR: 'it returns false'. Refute it at one input. -/
def cumulFairWrong : ChangeSpec := { name := "cumulFair", fn := fun _ => fun
  | [d] => { results := [.lit (.bool false)], args := [d] }
  | _ => none }
def CumulFairWrongFalsely : Prop := cumulFairRow.holds Try.pinned (OpenSpec.ofChange cumulFairWrong)

/-- 'hoistwaylaw12.DrawNext': WHATEVER THE INPUT: true; the input reads as it did. -/
def drawNextSpec : ChangeSpec := { name := "drawNext", fn := fun _ => fun
  | [d1, d2] => { results := [.lit (.bool true)], args := [d1, d2] }
  | _ => none }
def drawNextRow : OpenClaim := { program := "ytkepplkfjcoemab", sum := "3348b895fab10eb5fd4a8ca4d399e5ce8f5e01aedba6aa696f7dc46295a72a20", func := "hoistway/hoistwaylaw12.DrawNext", spec := "drawNext", unfollowed := true, recurses := true, apart := false }
def DrawNextSaid : Prop := drawNextRow.holds Try.pinned (OpenSpec.ofChange drawNextSpec)

/-- ITS FALSE NEIGHBOUR: 'it returns false'. Refute it at one input. -/
def drawNextWrong : ChangeSpec := { name := "drawNext", fn := fun _ => fun
  | [d1, d2] => { results := [.lit (.bool false)], args := [d1, d2] }
  | _ => none }
def DrawNextWrongFalsely : Prop := drawNextRow.holds Try.pinned (OpenSpec.ofChange drawNextWrong)

/-- 'hoistwaylaw12.DrawInverse': WHATEVER THE INPUT: true; the input reads as it did. -/
def drawInverseSpec : ChangeSpec := { name := "drawInverse", fn := fun _ => fun
  | [d1, d2] => { results := [.lit (.bool true)], args := [d1, d2] }
  | _ => none }
def drawInverseRow : OpenClaim := { program := "ytkepplkfjcoemab", sum := "3348b895fab10eb5fd4a8ca4d399e5ce8f5e01aedba6aa696f7dc46295a72a20", func := "hoistway/hoistwaylaw12.DrawInverse", spec := "drawInverse", unfollowed := true, recurses := true, apart := false }
def DrawInverseSaid : Prop := drawInverseRow.holds Try.pinned (OpenSpec.ofChange drawInverseSpec)

/-- ITS FALSE NEIGHBOUR: 'it returns false'. Refute it at one input. -/
def drawInverseWrong : ChangeSpec := { name := "drawInverse", fn := fun _ => fun
  | [d1, d2] => { results := [.lit (.bool false)], args := [d1, d2] }
  | _ => none }
def DrawInverseWrongFalsely : Prop := drawInverseRow.holds Try.pinned (OpenSpec.ofChange drawInverseWrong)

/-- 'hoistwaylaw13.PickTells': WHATEVER THE INPUT: true; the input reads as it did. -/
def pickTellsSpec : ChangeSpec := { name := "pickTells", fn := fun _ => fun
  | [d1, d2] => { results := [.lit (.bool true)], args := [d1, d2] }
  | _ => none }
def pickTellsRow : OpenClaim := { program := "ytkepplkfjcoemab", sum := "3348b895fab10eb5fd4a8ca4d399e5ce8f5e01aedba6aa696f7dc46295a72a20", func := "hoistway/hoistwaylaw13.PickTells", spec := "pickTells", apart := false }
def PickTellsSaid : Prop := pickTellsRow.holds Try.pinned (OpenSpec.ofChange pickTellsSpec)

/-- ITS FALSE NEIGHBOUR: 'it returns false'. Refute it at one input. -/
def pickTellsWrong : ChangeSpec := { name := "pickTells", fn := fun _ => fun
  | [d1, d2] => { results := [.lit (.bool false)], args := [d1, d2] }
  | _ => none }
def PickTellsWrongFalsely : Prop := pickTellsRow.holds Try.pinned (OpenSpec.ofChange pickTellsWrong)

/-- 'hoistwaylaw13.PickNext': WHATEVER THE INPUT: true; the input reads as it did. -/
def pickNextSpec : ChangeSpec := { name := "pickNext", fn := fun _ => fun
  | [d1, d2] => { results := [.lit (.bool true)], args := [d1, d2] }
  | _ => none }
def pickNextRow : OpenClaim := { program := "ytkepplkfjcoemab", sum := "3348b895fab10eb5fd4a8ca4d399e5ce8f5e01aedba6aa696f7dc46295a72a20", func := "hoistway/hoistwaylaw13.PickNext", spec := "pickNext", apart := false }
def PickNextSaid : Prop := pickNextRow.holds Try.pinned (OpenSpec.ofChange pickNextSpec)

/-- ITS FALSE NEIGHBOUR: 'it returns false'. Refute it at one input. -/
def pickNextWrong : ChangeSpec := { name := "pickNext", fn := fun _ => fun
  | [d1, d2] => { results := [.lit (.bool false)], args := [d1, d2] }
  | _ => none }
def PickNextWrongFalsely : Prop := pickNextRow.holds Try.pinned (OpenSpec.ofChange pickNextWrong)

/-- 'hoistwaylaw13.PickWeighs': WHATEVER THE INPUT: true; the input reads as it did. -/
def pickWeighsSpec : ChangeSpec := { name := "pickWeighs", fn := fun _ => fun
  | [d1, d2, d3] => { results := [.lit (.bool true)], args := [d1, d2, d3] }
  | _ => none }
def pickWeighsRow : OpenClaim := { program := "ytkepplkfjcoemab", sum := "3348b895fab10eb5fd4a8ca4d399e5ce8f5e01aedba6aa696f7dc46295a72a20", func := "hoistway/hoistwaylaw13.PickWeighs", spec := "pickWeighs", apart := false }
def PickWeighsSaid : Prop := pickWeighsRow.holds Try.pinned (OpenSpec.ofChange pickWeighsSpec)

/-- ITS FALSE NEIGHBOUR: 'it returns false'. Refute it at one input. -/
def pickWeighsWrong : ChangeSpec := { name := "pickWeighs", fn := fun _ => fun
  | [d1, d2, d3] => { results := [.lit (.bool false)], args := [d1, d2, d3] }
  | _ => none }
def PickWeighsWrongFalsely : Prop := pickWeighsRow.holds Try.pinned (OpenSpec.ofChange pickWeighsWrong)

/-- 'hoistwaylaw14.HistCounts': WHATEVER THE INPUT: true; the input reads as it did. -/
def histCountsSpec : ChangeSpec := { name := "histCounts", fn := fun _ => fun
  | [d1, d2, d3] => { results := [.lit (.bool true)], args := [d1, d2, d3] }
  | _ => none }
def histCountsRow : OpenClaim := { program := "ytkepplkfjcoemab", sum := "3348b895fab10eb5fd4a8ca4d399e5ce8f5e01aedba6aa696f7dc46295a72a20", func := "hoistway/hoistwaylaw14.HistCounts", spec := "histCounts", apart := false }
def HistCountsSaid : Prop := histCountsRow.holds Try.pinned (OpenSpec.ofChange histCountsSpec)

/-- ITS FALSE NEIGHBOUR: 'it returns false'. Refute it at one input. -/
def histCountsWrong : ChangeSpec := { name := "histCounts", fn := fun _ => fun
  | [d1, d2, d3] => { results := [.lit (.bool false)], args := [d1, d2, d3] }
  | _ => none }
def HistCountsWrongFalsely : Prop := histCountsRow.holds Try.pinned (OpenSpec.ofChange histCountsWrong)

/-- 'hoistwaylaw14.HistEdges': WHATEVER THE INPUT: true; the input reads as it did. -/
def histEdgesSpec : ChangeSpec := { name := "histEdges", fn := fun _ => fun
  | [d1, d2, d3] => { results := [.lit (.bool true)], args := [d1, d2, d3] }
  | _ => none }
def histEdgesRow : OpenClaim := { program := "ytkepplkfjcoemab", sum := "3348b895fab10eb5fd4a8ca4d399e5ce8f5e01aedba6aa696f7dc46295a72a20", func := "hoistway/hoistwaylaw14.HistEdges", spec := "histEdges", apart := false }
def HistEdgesSaid : Prop := histEdgesRow.holds Try.pinned (OpenSpec.ofChange histEdgesSpec)

/-- ITS FALSE NEIGHBOUR: 'it returns false'. Refute it at one input. -/
def histEdgesWrong : ChangeSpec := { name := "histEdges", fn := fun _ => fun
  | [d1, d2, d3] => { results := [.lit (.bool false)], args := [d1, d2, d3] }
  | _ => none }
def HistEdgesWrongFalsely : Prop := histEdgesRow.holds Try.pinned (OpenSpec.ofChange histEdgesWrong)

/- THE SECOND FORM. 'bulk': how many values and letters a reading holds, each counted each time it is reached (what is shared counts as often as it is met; a slice's spare places count too). A statement '..UptoSaid' is the law's where the arguments, and the package variables that the reading takes, are together of bulk at most 1048576: NARROWER than '..Said'. Prove '..Said' where nothing that the law and all that it calls make is longer than what came in: it says more and counts as full. Else prove '..UptoSaid'. A law counts once. -/
mutual
def uptoBulk {H : Type} : DataW H → Nat
  | .lit (.string bytes) => bytes.length + 1
  | .lit _ => 1
  | .nil => 1
  | .ptr d => uptoBulk d + 1
  | .slice elems spare => uptoBulkAll elems + uptoBulkAll spare + 1
  | .agg parts => uptoBulkAll parts + 1
  | .iface _ d => uptoBulk d + 1
  | .map entries => uptoBulkEntries entries + 1
  | .held _ => 1
def uptoBulkAll {H : Type} : List (DataW H) → Nat
  | [] => 0
  | d :: r => uptoBulk d + uptoBulkAll r
def uptoBulkEntries {H : Type} : List (Lit × DataW H) → Nat
  | [] => 0
  | x :: r => uptoBulkEntry x + uptoBulkEntries r
def uptoBulkEntry {H : Type} : Lit × DataW H → Nat
  | (.string bytes, d) => bytes.length + uptoBulk d + 1
  | (_, d) => uptoBulk d + 1
 end
def uptoSmall : (H : Type) → List (DataW H) → Bool := fun _ ds => decide (uptoBulkAll ds ≤ 1048576)
def OpenSpec.upto (s : _root_.Go.ChangeSpec) : _root_.Go.OpenSpec := { _root_.Go.OpenSpec.ofChange s with cond := some uptoSmall }

/-- 'hoistwaylaw09.SpanSets', WHERE WHAT IT READS IS OF BULK AT MOST 1048576: true; the input reads as it did. -/
def spanSetsUptoRow : OpenClaim := { program := "ytkepplkfjcoemab", sum := "3348b895fab10eb5fd4a8ca4d399e5ce8f5e01aedba6aa696f7dc46295a72a20", func := "hoistway/hoistwaylaw09.SpanSets", spec := "spanSets", unfollowed := true, recurses := true, apart := false, narrowed := true }
def SpanSetsUptoSaid : Prop := spanSetsUptoRow.holds Try.pinned (OpenSpec.upto spanSetsSpec)

/-- 'hoistwaylaw09.SpanLens', WHERE WHAT IT READS IS OF BULK AT MOST 1048576: true; the input reads as it did. -/
def spanLensUptoRow : OpenClaim := { program := "ytkepplkfjcoemab", sum := "3348b895fab10eb5fd4a8ca4d399e5ce8f5e01aedba6aa696f7dc46295a72a20", func := "hoistway/hoistwaylaw09.SpanLens", spec := "spanLens", unfollowed := true, recurses := true, apart := false, narrowed := true }
def SpanLensUptoSaid : Prop := spanLensUptoRow.holds Try.pinned (OpenSpec.upto spanLensSpec)

/-- 'hoistwaylaw11.CumulTables', WHERE WHAT IT READS IS OF BULK AT MOST 1048576: true; the input reads as it did. -/
def cumulTablesUptoRow : OpenClaim := { program := "ytkepplkfjcoemab", sum := "3348b895fab10eb5fd4a8ca4d399e5ce8f5e01aedba6aa696f7dc46295a72a20", func := "hoistway/hoistwaylaw11.CumulTables", spec := "cumulTables", apart := false, narrowed := true }
def CumulTablesUptoSaid : Prop := cumulTablesUptoRow.holds Try.pinned (OpenSpec.upto cumulTablesSpec)

/-- 'hoistwaylaw11.CumulTells', WHERE WHAT IT READS IS OF BULK AT MOST 1048576: true; the input reads as it did. -/
def cumulTellsUptoRow : OpenClaim := { program := "ytkepplkfjcoemab", sum := "3348b895fab10eb5fd4a8ca4d399e5ce8f5e01aedba6aa696f7dc46295a72a20", func := "hoistway/hoistwaylaw11.CumulTells", spec := "cumulTells", apart := false, narrowed := true }
def CumulTellsUptoSaid : Prop := cumulTellsUptoRow.holds Try.pinned (OpenSpec.upto cumulTellsSpec)

/-- 'hoistwaylaw11.CumulFair', WHERE WHAT IT READS IS OF BULK AT MOST 1048576: true; the input reads as it did. -/
def cumulFairUptoRow : OpenClaim := { program := "ytkepplkfjcoemab", sum := "3348b895fab10eb5fd4a8ca4d399e5ce8f5e01aedba6aa696f7dc46295a72a20", func := "hoistway/hoistwaylaw11.CumulFair", spec := "cumulFair", apart := false, narrowed := true }
def CumulFairUptoSaid : Prop := cumulFairUptoRow.holds Try.pinned (OpenSpec.upto cumulFairSpec)

/-- 'hoistwaylaw12.DrawNext', WHERE WHAT IT READS IS OF BULK AT MOST 1048576: true; the input reads as it did. -/
def drawNextUptoRow : OpenClaim := { program := "ytkepplkfjcoemab", sum := "3348b895fab10eb5fd4a8ca4d399e5ce8f5e01aedba6aa696f7dc46295a72a20", func := "hoistway/hoistwaylaw12.DrawNext", spec := "drawNext", unfollowed := true, recurses := true, apart := false, narrowed := true }
def DrawNextUptoSaid : Prop := drawNextUptoRow.holds Try.pinned (OpenSpec.upto drawNextSpec)

/-- 'hoistwaylaw12.DrawInverse', WHERE WHAT IT READS IS OF BULK AT MOST 1048576: true; the input reads as it did. -/
def drawInverseUptoRow : OpenClaim := { program := "ytkepplkfjcoemab", sum := "3348b895fab10eb5fd4a8ca4d399e5ce8f5e01aedba6aa696f7dc46295a72a20", func := "hoistway/hoistwaylaw12.DrawInverse", spec := "drawInverse", unfollowed := true, recurses := true, apart := false, narrowed := true }
def DrawInverseUptoSaid : Prop := drawInverseUptoRow.holds Try.pinned (OpenSpec.upto drawInverseSpec)

/-- 'hoistwaylaw13.PickTells', WHERE WHAT IT READS IS OF BULK AT MOST 1048576: true; the input reads as it did. -/
def pickTellsUptoRow : OpenClaim := { program := "ytkepplkfjcoemab", sum := "3348b895fab10eb5fd4a8ca4d399e5ce8f5e01aedba6aa696f7dc46295a72a20", func := "hoistway/hoistwaylaw13.PickTells", spec := "pickTells", apart := false, narrowed := true }
def PickTellsUptoSaid : Prop := pickTellsUptoRow.holds Try.pinned (OpenSpec.upto pickTellsSpec)

/-- 'hoistwaylaw13.PickNext', WHERE WHAT IT READS IS OF BULK AT MOST 1048576: true; the input reads as it did. -/
def pickNextUptoRow : OpenClaim := { program := "ytkepplkfjcoemab", sum := "3348b895fab10eb5fd4a8ca4d399e5ce8f5e01aedba6aa696f7dc46295a72a20", func := "hoistway/hoistwaylaw13.PickNext", spec := "pickNext", apart := false, narrowed := true }
def PickNextUptoSaid : Prop := pickNextUptoRow.holds Try.pinned (OpenSpec.upto pickNextSpec)

/-- 'hoistwaylaw13.PickWeighs', WHERE WHAT IT READS IS OF BULK AT MOST 1048576: true; the input reads as it did. -/
def pickWeighsUptoRow : OpenClaim := { program := "ytkepplkfjcoemab", sum := "3348b895fab10eb5fd4a8ca4d399e5ce8f5e01aedba6aa696f7dc46295a72a20", func := "hoistway/hoistwaylaw13.PickWeighs", spec := "pickWeighs", apart := false, narrowed := true }
def PickWeighsUptoSaid : Prop := pickWeighsUptoRow.holds Try.pinned (OpenSpec.upto pickWeighsSpec)

/-- 'hoistwaylaw14.HistCounts', WHERE WHAT IT READS IS OF BULK AT MOST 1048576: true; the input reads as it did. -/
def histCountsUptoRow : OpenClaim := { program := "ytkepplkfjcoemab", sum := "3348b895fab10eb5fd4a8ca4d399e5ce8f5e01aedba6aa696f7dc46295a72a20", func := "hoistway/hoistwaylaw14.HistCounts", spec := "histCounts", apart := false, narrowed := true }
def HistCountsUptoSaid : Prop := histCountsUptoRow.holds Try.pinned (OpenSpec.upto histCountsSpec)

/-- 'hoistwaylaw14.HistEdges', WHERE WHAT IT READS IS OF BULK AT MOST 1048576: true; the input reads as it did. -/
def histEdgesUptoRow : OpenClaim := { program := "ytkepplkfjcoemab", sum := "3348b895fab10eb5fd4a8ca4d399e5ce8f5e01aedba6aa696f7dc46295a72a20", func := "hoistway/hoistwaylaw14.HistEdges", spec := "histEdges", apart := false, narrowed := true }
def HistEdgesUptoSaid : Prop := histEdgesUptoRow.holds Try.pinned (OpenSpec.upto histEdgesSpec)

end Rows
end Go.Proofs.Ytkepplkfjcoemab
