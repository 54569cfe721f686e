/-
  No cell of these rows narrows 'for every input' (looked for: loops, veiled, ifaces, maps, wideKeys, modest, calm, conditions, laid).
  DERIVED. THE GIVEN ROWS OF THIS SEAT. 4 by the template 'for every input the law returns true; each argument reads behind the call as it read before'; 0 by the template 'total and deterministic' (their statements: YtnjdeikikdieoaaTotals.lean).
  GIVEN WITH THE SEED: the statements are not yours to turn. If you find one false, say at which input.
  Laid BY PROGRAM, IN A SANDBOX (cutbox-rows.mjs): the forced cells as the released guide's own fill.sh prints them over the translation 1bba8279f59ee46a… (all of the seat's roots in one cut). By AI agents, Wed Nov 11 2026. No macro, syntax, notation, axiom, sorry.
-/
import Derived.Test.YtnjdeikikdieoaaChecked
import GoSem.Claim
import GoSem.ClaimJoined
import GoSem.ClaimMapViews
import Derived.JoinedTies
import Derived.KernelRfl
namespace Go.Proofs.Ytnjdeikikdieoaa
/- THE CELL 'sum', in the pinned program and in every row, IS THE sha256 OF THE DUMP (.gsa) THAT YtnjdeikikdieoaaProg.lean LOADS. Nothing in Lean hashes anything: it is a label: what it is worth is what the hold of that sum in a sandbox is worth. -/
noncomputable def Try.pinned : Pinned := { name := "ytnjdeikikdieoaa", sum := "1bba8279f59ee46a2ded11ac004cfebfddc4320eff41f076ed546b13805b357b", checked := Try.checked }
namespace Rows
def none {H : Type} : Left H := { results := [], args := [] }

/-- 'hoistwaylaw38.DiffLogs': WHATEVER THE INPUT: true; the input reads as it did. -/
def diffLogsSpec : ChangeSpec := { name := "diffLogs", fn := fun _ => fun
  | [d1, d2] => { results := [.lit (.bool true)], args := [d1, d2] }
  | _ => none }
def diffLogsRow : OpenClaim := { program := "ytnjdeikikdieoaa", sum := "1bba8279f59ee46a2ded11ac004cfebfddc4320eff41f076ed546b13805b357b", func := "hoistway/hoistwaylaw38.DiffLogs", spec := "diffLogs", unfollowed := true, recurses := true, apart := false }
def DiffLogsSaid : Prop := diffLogsRow.holds Try.pinned (OpenSpec.ofChange diffLogsSpec)

/-- ITS FALSE NEIGHBOUR: 'it returns false'. Refute it at one input. -/
def diffLogsWrong : ChangeSpec := { name := "diffLogs", fn := fun _ => fun
  | [d1, d2] => { results := [.lit (.bool false)], args := [d1, d2] }
  | _ => none }
def DiffLogsWrongFalsely : Prop := diffLogsRow.holds Try.pinned (OpenSpec.ofChange diffLogsWrong)

/-- 'hoistwaylaw09.SpanSets': WHATEVER THE INPUT: true; the input reads as it did. -/
def spanSetsSpec : ChangeSpec := { name := "spanSets", fn := fun _ => fun
  | [d1, d2, d3] => { results := [.lit (.bool true)], args := [d1, d2, d3] }
  | _ => none }
def spanSetsRow : OpenClaim := { program := "ytnjdeikikdieoaa", sum := "1bba8279f59ee46a2ded11ac004cfebfddc4320eff41f076ed546b13805b357b", func := "hoistway/hoistwaylaw09.SpanSets", spec := "spanSets", unfollowed := true, recurses := true, apart := false }
def SpanSetsSaid : Prop := spanSetsRow.holds Try.pinned (OpenSpec.ofChange spanSetsSpec)

/-- ITS FALSE NEIGHBOUR: 'it returns false'. Refute it at one input. -/
def spanSetsWrong : ChangeSpec := { name := "spanSets", fn := fun _ => fun
  | [d1, d2, d3] => { results := [.lit (.bool false)], args := [d1, d2, d3] }
  | _ => none }
def SpanSetsWrongFalsely : Prop := spanSetsRow.holds Try.pinned (OpenSpec.ofChange spanSetsWrong)

/-- 'hoistwaylaw09.SpanLens': WHATEVER THE INPUT: true; the input reads as it did. -/
def spanLensSpec : ChangeSpec := { name := "spanLens", fn := fun _ => fun
  | [d1, d2] => { results := [.lit (.bool true)], args := [d1, d2] }
  | _ => none }
def spanLensRow : OpenClaim := { program := "ytnjdeikikdieoaa", sum := "1bba8279f59ee46a2ded11ac004cfebfddc4320eff41f076ed546b13805b357b", func := "hoistway/hoistwaylaw09.SpanLens", spec := "spanLens", unfollowed := true, recurses := true, apart := false }
def SpanLensSaid : Prop := spanLensRow.holds Try.pinned (OpenSpec.ofChange spanLensSpec)

/-- ITS FALSE NEIGHBOUR: 'it returns false'. Refute it at one input. -/
def spanLensWrong : ChangeSpec := { name := "spanLens", fn := fun _ => fun
  | [d1, d2] => { results := [.lit (.bool false)], args := [d1, d2] }
  | _ => none }
def SpanLensWrongFalsely : Prop := spanLensRow.holds Try.pinned (OpenSpec.ofChange spanLensWrong)

/-- 'hoistwaylaw14.HistSums': WHATEVER THE INPUT: true; the input reads as it did. -/
def histSumsSpec : ChangeSpec := { name := "histSums", fn := fun _ => fun
  | [d1, d2, d3] => { results := [.lit (.bool true)], args := [d1, d2, d3] }
  | _ => none }
def histSumsRow : OpenClaim := { program := "ytnjdeikikdieoaa", sum := "1bba8279f59ee46a2ded11ac004cfebfddc4320eff41f076ed546b13805b357b", func := "hoistway/hoistwaylaw14.HistSums", spec := "histSums", unfollowed := true, recurses := true, apart := false }
def HistSumsSaid : Prop := histSumsRow.holds Try.pinned (OpenSpec.ofChange histSumsSpec)

/-- ITS FALSE NEIGHBOUR: 'it returns false'. Refute it at one input. -/
def histSumsWrong : ChangeSpec := { name := "histSums", fn := fun _ => fun
  | [d1, d2, d3] => { results := [.lit (.bool false)], args := [d1, d2, d3] }
  | _ => none }
def HistSumsWrongFalsely : Prop := histSumsRow.holds Try.pinned (OpenSpec.ofChange histSumsWrong)

/- THE SECOND FORM. 'bulk': how many values and letters a reading holds, each counted each time it is reached (what is shared counts as often as it is met; a slice's spare places count too). A statement '..UptoSaid' is the law's where the arguments, and the package variables that the reading takes, are together of bulk at most 1048576: NARROWER than '..Said'. Prove '..Said' where nothing that the law and all that it calls make is longer than what came in: it says more and counts as full. Else prove '..UptoSaid'. A law counts once. -/
mutual
def uptoBulk {H : Type} : DataW H → Nat
  | .lit (.string bytes) => bytes.length + 1
  | .lit _ => 1
  | .nil => 1
  | .ptr d => uptoBulk d + 1
  | .slice elems spare => uptoBulkAll elems + uptoBulkAll spare + 1
  | .agg parts => uptoBulkAll parts + 1
  | .iface _ d => uptoBulk d + 1
  | .map entries => uptoBulkEntries entries + 1
  | .held _ => 1
def uptoBulkAll {H : Type} : List (DataW H) → Nat
  | [] => 0
  | d :: r => uptoBulk d + uptoBulkAll r
def uptoBulkEntries {H : Type} : List (Lit × DataW H) → Nat
  | [] => 0
  | x :: r => uptoBulkEntry x + uptoBulkEntries r
def uptoBulkEntry {H : Type} : Lit × DataW H → Nat
  | (.string bytes, d) => bytes.length + uptoBulk d + 1
  | (_, d) => uptoBulk d + 1
 end
def uptoSmall : (H : Type) → List (DataW H) → Bool := fun _ ds => decide (uptoBulkAll ds ≤ 1048576)
def OpenSpec.upto (s : _root_.Go.ChangeSpec) : _root_.Go.OpenSpec := { _root_.Go.OpenSpec.ofChange s with cond := some uptoSmall }

/-- 'hoistwaylaw38.DiffLogs', WHERE WHAT IT READS IS OF BULK AT MOST 1048576: true; the input reads as it did. -/
def diffLogsUptoRow : OpenClaim := { program := "ytnjdeikikdieoaa", sum := "1bba8279f59ee46a2ded11ac004cfebfddc4320eff41f076ed546b13805b357b", func := "hoistway/hoistwaylaw38.DiffLogs", spec := "diffLogs", unfollowed := true, recurses := true, apart := false, narrowed := true }
def DiffLogsUptoSaid : Prop := diffLogsUptoRow.holds Try.pinned (OpenSpec.upto diffLogsSpec)

/-- 'hoistwaylaw09.SpanSets', WHERE WHAT IT READS IS OF BULK AT MOST 1048576: true; the input reads as it did. -/
def spanSetsUptoRow : OpenClaim := { program := "ytnjdeikikdieoaa", sum := "1bba8279f59ee46a2ded11ac004cfebfddc4320eff41f076ed546b13805b357b", func := "hoistway/hoistwaylaw09.SpanSets", spec := "spanSets", unfollowed := true, recurses := true, apart := false, narrowed := true }
def SpanSetsUptoSaid : Prop := spanSetsUptoRow.holds Try.pinned (OpenSpec.upto spanSetsSpec)

/-- 'hoistwaylaw09.SpanLens', WHERE WHAT IT READS IS OF BULK AT MOST 1048576: true; the input reads as it did. -/
def spanLensUptoRow : OpenClaim := { program := "ytnjdeikikdieoaa", sum := "1bba8279f59ee46a2ded11ac004cfebfddc4320eff41f076ed546b13805b357b", func := "hoistway/hoistwaylaw09.SpanLens", spec := "spanLens", unfollowed := true, recurses := true, apart := false, narrowed := true }
def SpanLensUptoSaid : Prop := spanLensUptoRow.holds Try.pinned (OpenSpec.upto spanLensSpec)

/-- 'hoistwaylaw14.HistSums', WHERE WHAT IT READS IS OF BULK AT MOST 1048576: true; the input reads as it did. -/
def histSumsUptoRow : OpenClaim := { program := "ytnjdeikikdieoaa", sum := "1bba8279f59ee46a2ded11ac004cfebfddc4320eff41f076ed546b13805b357b", func := "hoistway/hoistwaylaw14.HistSums", spec := "histSums", unfollowed := true, recurses := true, apart := false, narrowed := true }
def HistSumsUptoSaid : Prop := histSumsUptoRow.holds Try.pinned (OpenSpec.upto histSumsSpec)

end Rows
end Go.Proofs.Ytnjdeikikdieoaa
