/-
  No cell of these rows narrows 'for every input' (looked for: loops, veiled, ifaces, maps, wideKeys, modest, calm, conditions, laid).
  DERIVED. THE GIVEN ROWS OF THIS SEAT. 7 by the template 'for every input the law returns true; each argument reads behind the call as it read before'; 0 by the template 'total and deterministic' (their statements: YtbbcohgkiejhjabTotals.lean).
  GIVEN WITH THE SEED: the statements are not yours to turn. If you find one false, say at which input.
  Laid BY PROGRAM, IN A SANDBOX (cutbox-rows.mjs): the forced cells as the released guide's own fill.sh prints them over the translation 32d332720249f4c0… (all of the seat's roots in one cut). By AI agents, Wed Nov 11 2026. No macro, syntax, notation, axiom, sorry.
-/
import Derived.Test.YtbbcohgkiejhjabChecked
import GoSem.Claim
import GoSem.ClaimJoined
import GoSem.ClaimMapViews
import Derived.JoinedTies
import Derived.KernelRfl
namespace Go.Proofs.Ytbbcohgkiejhjab
/- THE CELL 'sum', in the pinned program and in every row, IS THE sha256 OF THE DUMP (.gsa) THAT YtbbcohgkiejhjabProg.lean LOADS. Nothing in Lean hashes anything: it is a label: what it is worth is what the hold of that sum in a sandbox is worth. -/
noncomputable def Try.pinned : Pinned := { name := "ytbbcohgkiejhjab", sum := "32d332720249f4c0e222cf45b127aa4f8eab15a245dc0b63416b289a2bfb95e0", checked := Try.checked }
namespace Rows
def none {H : Type} : Left H := { results := [], args := [] }

/-- 'hoistwaylaw06.HeapPlays': WHATEVER THE INPUT: true; the input reads as it did. -/
def heapPlaysSpec : ChangeSpec := { name := "heapPlays", fn := fun _ => fun
  | [d1, d2] => { results := [.lit (.bool true)], args := [d1, d2] }
  | _ => none }
def heapPlaysRow : OpenClaim := { program := "ytbbcohgkiejhjab", sum := "32d332720249f4c0e222cf45b127aa4f8eab15a245dc0b63416b289a2bfb95e0", func := "hoistway/hoistwaylaw06.HeapPlays", spec := "heapPlays", unfollowed := true, recurses := true, plainKeys := false, apart := false }
def HeapPlaysSaid : Prop := heapPlaysRow.holds Try.pinned (OpenSpec.ofChange heapPlaysSpec)

/-- ITS FALSE NEIGHBOUR: 'it returns false'. Refute it at one input. -/
def heapPlaysWrong : ChangeSpec := { name := "heapPlays", fn := fun _ => fun
  | [d1, d2] => { results := [.lit (.bool false)], args := [d1, d2] }
  | _ => none }
def HeapPlaysWrongFalsely : Prop := heapPlaysRow.holds Try.pinned (OpenSpec.ofChange heapPlaysWrong)

/-- 'hoistwaylaw06.HeapSorts': WHATEVER THE INPUT: true; the input reads as it did. -/
def heapSortsSpec : ChangeSpec := { name := "heapSorts", fn := fun _ => fun
  | [d1, d2, d3] => { results := [.lit (.bool true)], args := [d1, d2, d3] }
  | _ => none }
def heapSortsRow : OpenClaim := { program := "ytbbcohgkiejhjab", sum := "32d332720249f4c0e222cf45b127aa4f8eab15a245dc0b63416b289a2bfb95e0", func := "hoistway/hoistwaylaw06.HeapSorts", spec := "heapSorts", unfollowed := true, recurses := true, plainKeys := false, apart := false }
def HeapSortsSaid : Prop := heapSortsRow.holds Try.pinned (OpenSpec.ofChange heapSortsSpec)

/-- ITS FALSE NEIGHBOUR: 'it returns false'. Refute it at one input. -/
def heapSortsWrong : ChangeSpec := { name := "heapSorts", fn := fun _ => fun
  | [d1, d2, d3] => { results := [.lit (.bool false)], args := [d1, d2, d3] }
  | _ => none }
def HeapSortsWrongFalsely : Prop := heapSortsRow.holds Try.pinned (OpenSpec.ofChange heapSortsWrong)

/-- 'hoistwaylaw07.GridOrder': WHATEVER THE INPUT: true; the input reads as it did. -/
def gridOrderSpec : ChangeSpec := { name := "gridOrder", fn := fun _ => fun
  | [d1, d2] => { results := [.lit (.bool true)], args := [d1, d2] }
  | _ => none }
def gridOrderRow : OpenClaim := { program := "ytbbcohgkiejhjab", sum := "32d332720249f4c0e222cf45b127aa4f8eab15a245dc0b63416b289a2bfb95e0", func := "hoistway/hoistwaylaw07.GridOrder", spec := "gridOrder", plainKeys := false, apart := false }
def GridOrderSaid : Prop := gridOrderRow.holds Try.pinned (OpenSpec.ofChange gridOrderSpec)

/-- ITS FALSE NEIGHBOUR: 'it returns false'. Refute it at one input. -/
def gridOrderWrong : ChangeSpec := { name := "gridOrder", fn := fun _ => fun
  | [d1, d2] => { results := [.lit (.bool false)], args := [d1, d2] }
  | _ => none }
def GridOrderWrongFalsely : Prop := gridOrderRow.holds Try.pinned (OpenSpec.ofChange gridOrderWrong)

/-- 'hoistwaylaw09.SpanMerges': WHATEVER THE INPUT: true; the input reads as it did. -/
def spanMergesSpec : ChangeSpec := { name := "spanMerges", fn := fun _ => fun
  | [d1, d2] => { results := [.lit (.bool true)], args := [d1, d2] }
  | _ => none }
def spanMergesRow : OpenClaim := { program := "ytbbcohgkiejhjab", sum := "32d332720249f4c0e222cf45b127aa4f8eab15a245dc0b63416b289a2bfb95e0", func := "hoistway/hoistwaylaw09.SpanMerges", spec := "spanMerges", unfollowed := true, recurses := true, plainKeys := false, apart := false }
def SpanMergesSaid : Prop := spanMergesRow.holds Try.pinned (OpenSpec.ofChange spanMergesSpec)

/-- ITS FALSE NEIGHBOUR: 'it returns false'. Refute it at one input. -/
def spanMergesWrong : ChangeSpec := { name := "spanMerges", fn := fun _ => fun
  | [d1, d2] => { results := [.lit (.bool false)], args := [d1, d2] }
  | _ => none }
def SpanMergesWrongFalsely : Prop := spanMergesRow.holds Try.pinned (OpenSpec.ofChange spanMergesWrong)

/-- 'hoistwaylaw09.SpanSets': WHATEVER THE INPUT: true; the input reads as it did. -/
def spanSetsSpec : ChangeSpec := { name := "spanSets", fn := fun _ => fun
  | [d1, d2, d3] => { results := [.lit (.bool true)], args := [d1, d2, d3] }
  | _ => none }
def spanSetsRow : OpenClaim := { program := "ytbbcohgkiejhjab", sum := "32d332720249f4c0e222cf45b127aa4f8eab15a245dc0b63416b289a2bfb95e0", func := "hoistway/hoistwaylaw09.SpanSets", spec := "spanSets", unfollowed := true, recurses := true, plainKeys := false, apart := false }
def SpanSetsSaid : Prop := spanSetsRow.holds Try.pinned (OpenSpec.ofChange spanSetsSpec)

/-- ITS FALSE NEIGHBOUR: 'it returns false'. Refute it at one input. -/
def spanSetsWrong : ChangeSpec := { name := "spanSets", fn := fun _ => fun
  | [d1, d2, d3] => { results := [.lit (.bool false)], args := [d1, d2, d3] }
  | _ => none }
def SpanSetsWrongFalsely : Prop := spanSetsRow.holds Try.pinned (OpenSpec.ofChange spanSetsWrong)

/-- 'hoistwaylaw09.SpanLens': WHATEVER THE INPUT: true; the input reads as it did. -/
def spanLensSpec : ChangeSpec := { name := "spanLens", fn := fun _ => fun
  | [d1, d2] => { results := [.lit (.bool true)], args := [d1, d2] }
  | _ => none }
def spanLensRow : OpenClaim := { program := "ytbbcohgkiejhjab", sum := "32d332720249f4c0e222cf45b127aa4f8eab15a245dc0b63416b289a2bfb95e0", func := "hoistway/hoistwaylaw09.SpanLens", spec := "spanLens", unfollowed := true, recurses := true, plainKeys := false, apart := false }
def SpanLensSaid : Prop := spanLensRow.holds Try.pinned (OpenSpec.ofChange spanLensSpec)

/-- ITS FALSE NEIGHBOUR: 'it returns false'. Refute it at one input. -/
def spanLensWrong : ChangeSpec := { name := "spanLens", fn := fun _ => fun
  | [d1, d2] => { results := [.lit (.bool false)], args := [d1, d2] }
  | _ => none }
def SpanLensWrongFalsely : Prop := spanLensRow.holds Try.pinned (OpenSpec.ofChange spanLensWrong)

/-- 'hoistwaylaw10.LcgMakes': WHATEVER THE INPUT: true; the input reads as it did. -/
def lcgMakesSpec : ChangeSpec := { name := "lcgMakes", fn := fun _ => fun
  | [d1, d2] => { results := [.lit (.bool true)], args := [d1, d2] }
  | _ => none }
def lcgMakesRow : OpenClaim := { program := "ytbbcohgkiejhjab", sum := "32d332720249f4c0e222cf45b127aa4f8eab15a245dc0b63416b289a2bfb95e0", func := "hoistway/hoistwaylaw10.LcgMakes", spec := "lcgMakes", plainKeys := false, apart := false }
def LcgMakesSaid : Prop := lcgMakesRow.holds Try.pinned (OpenSpec.ofChange lcgMakesSpec)

/-- ITS FALSE NEIGHBOUR: 'it returns false'. Refute it at one input. -/
def lcgMakesWrong : ChangeSpec := { name := "lcgMakes", fn := fun _ => fun
  | [d1, d2] => { results := [.lit (.bool false)], args := [d1, d2] }
  | _ => none }
def LcgMakesWrongFalsely : Prop := lcgMakesRow.holds Try.pinned (OpenSpec.ofChange lcgMakesWrong)

/- THE SECOND FORM. 'bulk': how many values and letters a reading holds, each counted each time it is reached (what is shared counts as often as it is met; a slice's spare places count too). A statement '..UptoSaid' is the law's where the arguments, and the package variables that the reading takes, are together of bulk at most 1048576: NARROWER than '..Said'. Prove '..Said' where nothing that the law and all that it calls make is longer than what came in: it says more and counts as full. Else prove '..UptoSaid'. A law counts once. -/
mutual
def uptoBulk {H : Type} : DataW H → Nat
  | .lit (.string bytes) => bytes.length + 1
  | .lit _ => 1
  | .nil => 1
  | .ptr d => uptoBulk d + 1
  | .slice elems spare => uptoBulkAll elems + uptoBulkAll spare + 1
  | .agg parts => uptoBulkAll parts + 1
  | .iface _ d => uptoBulk d + 1
  | .map entries => uptoBulkEntries entries + 1
  | .held _ => 1
def uptoBulkAll {H : Type} : List (DataW H) → Nat
  | [] => 0
  | d :: r => uptoBulk d + uptoBulkAll r
def uptoBulkEntries {H : Type} : List (Lit × DataW H) → Nat
  | [] => 0
  | x :: r => uptoBulkEntry x + uptoBulkEntries r
def uptoBulkEntry {H : Type} : Lit × DataW H → Nat
  | (.string bytes, d) => bytes.length + uptoBulk d + 1
  | (_, d) => uptoBulk d + 1
 end
def uptoSmall : (H : Type) → List (DataW H) → Bool := fun _ ds => decide (uptoBulkAll ds ≤ 1048576)
def OpenSpec.upto (s : _root_.Go.ChangeSpec) : _root_.Go.OpenSpec := { _root_.Go.OpenSpec.ofChange s with cond := some uptoSmall }

/-- 'hoistwaylaw06.HeapPlays', WHERE WHAT IT READS IS OF BULK AT MOST 1048576: true; the input reads as it did. -/
def heapPlaysUptoRow : OpenClaim := { program := "ytbbcohgkiejhjab", sum := "32d332720249f4c0e222cf45b127aa4f8eab15a245dc0b63416b289a2bfb95e0", func := "hoistway/hoistwaylaw06.HeapPlays", spec := "heapPlays", unfollowed := true, recurses := true, plainKeys := false, apart := false, narrowed := true }
def HeapPlaysUptoSaid : Prop := heapPlaysUptoRow.holds Try.pinned (OpenSpec.upto heapPlaysSpec)

/-- 'hoistwaylaw06.HeapSorts', WHERE WHAT IT READS IS OF BULK AT MOST 1048576: true; the input reads as it did. -/
def heapSortsUptoRow : OpenClaim := { program := "ytbbcohgkiejhjab", sum := "32d332720249f4c0e222cf45b127aa4f8eab15a245dc0b63416b289a2bfb95e0", func := "hoistway/hoistwaylaw06.HeapSorts", spec := "heapSorts", unfollowed := true, recurses := true, plainKeys := false, apart := false, narrowed := true }
def HeapSortsUptoSaid : Prop := heapSortsUptoRow.holds Try.pinned (OpenSpec.upto heapSortsSpec)

/-- 'hoistwaylaw07.GridOrder', WHERE WHAT IT READS IS OF BULK AT MOST 1048576: true; the input reads as it did. -/
def gridOrderUptoRow : OpenClaim := { program := "ytbbcohgkiejhjab", sum := "32d332720249f4c0e222cf45b127aa4f8eab15a245dc0b63416b289a2bfb95e0", func := "hoistway/hoistwaylaw07.GridOrder", spec := "gridOrder", plainKeys := false, apart := false, narrowed := true }
def GridOrderUptoSaid : Prop := gridOrderUptoRow.holds Try.pinned (OpenSpec.upto gridOrderSpec)

/-- 'hoistwaylaw09.SpanMerges', WHERE WHAT IT READS IS OF BULK AT MOST 1048576: true; the input reads as it did. -/
def spanMergesUptoRow : OpenClaim := { program := "ytbbcohgkiejhjab", sum := "32d332720249f4c0e222cf45b127aa4f8eab15a245dc0b63416b289a2bfb95e0", func := "hoistway/hoistwaylaw09.SpanMerges", spec := "spanMerges", unfollowed := true, recurses := true, plainKeys := false, apart := false, narrowed := true }
def SpanMergesUptoSaid : Prop := spanMergesUptoRow.holds Try.pinned (OpenSpec.upto spanMergesSpec)

/-- 'hoistwaylaw09.SpanSets', WHERE WHAT IT READS IS OF BULK AT MOST 1048576: true; the input reads as it did. -/
def spanSetsUptoRow : OpenClaim := { program := "ytbbcohgkiejhjab", sum := "32d332720249f4c0e222cf45b127aa4f8eab15a245dc0b63416b289a2bfb95e0", func := "hoistway/hoistwaylaw09.SpanSets", spec := "spanSets", unfollowed := true, recurses := true, plainKeys := false, apart := false, narrowed := true }
def SpanSetsUptoSaid : Prop := spanSetsUptoRow.holds Try.pinned (OpenSpec.upto spanSetsSpec)

/-- 'hoistwaylaw09.SpanLens', WHERE WHAT IT READS IS OF BULK AT MOST 1048576: true; the input reads as it did. -/
def spanLensUptoRow : OpenClaim := { program := "ytbbcohgkiejhjab", sum := "32d332720249f4c0e222cf45b127aa4f8eab15a245dc0b63416b289a2bfb95e0", func := "hoistway/hoistwaylaw09.SpanLens", spec := "spanLens", unfollowed := true, recurses := true, plainKeys := false, apart := false, narrowed := true }
def SpanLensUptoSaid : Prop := spanLensUptoRow.holds Try.pinned (OpenSpec.upto spanLensSpec)

/-- 'hoistwaylaw10.LcgMakes', WHERE WHAT IT READS IS OF BULK AT MOST 1048576: true; the input reads as it did. -/
def lcgMakesUptoRow : OpenClaim := { program := "ytbbcohgkiejhjab", sum := "32d332720249f4c0e222cf45b127aa4f8eab15a245dc0b63416b289a2bfb95e0", func := "hoistway/hoistwaylaw10.LcgMakes", spec := "lcgMakes", plainKeys := false, apart := false, narrowed := true }
def LcgMakesUptoSaid : Prop := lcgMakesUptoRow.holds Try.pinned (OpenSpec.upto lcgMakesSpec)

end Rows
end Go.Proofs.Ytbbcohgkiejhjab
