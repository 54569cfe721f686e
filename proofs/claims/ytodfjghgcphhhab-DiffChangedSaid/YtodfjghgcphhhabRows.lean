/-
  No cell of these rows narrows 'for every input' (looked for: loops, veiled, ifaces, maps, wideKeys, modest, calm, conditions, laid).
  DERIVED. THE GIVEN ROWS OF THIS SEAT. 4 by the template 'for every input the law returns true; each argument reads behind the call as it read before'; 0 by the template 'total and deterministic' (their statements: YtodfjghgcphhhabTotals.lean).
  GIVEN WITH THE SEED: the statements are not yours to turn. If you find one false, say at which input.
  Laid BY PROGRAM, IN A SANDBOX (cutbox-rows.mjs): the forced cells as the released guide's own fill.sh prints them over the translation 47b2f7e4f5953af5… (all of the seat's roots in one cut). By AI agents, Wed Nov 11 2026. No macro, syntax, notation, axiom, sorry.
-/
import Derived.Test.YtodfjghgcphhhabChecked
import GoSem.Claim
import GoSem.ClaimJoined
import GoSem.ClaimMapViews
import Derived.JoinedTies
import Derived.KernelRfl
namespace Go.Proofs.Ytodfjghgcphhhab
/- THE CELL 'sum', in the pinned program and in every row, IS THE sha256 OF THE DUMP (.gsa) THAT YtodfjghgcphhhabProg.lean LOADS. Nothing in Lean hashes anything: it is a label: what it is worth is what the hold of that sum in a sandbox is worth. -/
noncomputable def Try.pinned : Pinned := { name := "ytodfjghgcphhhab", sum := "47b2f7e4f5953af5d955e0769657f1caf96eb50ab1aa99d3487c5755cfffb323", checked := Try.checked }
namespace Rows
def none {H : Type} : Left H := { results := [], args := [] }

/-- 'hoistwaylaw38.DiffWays': WHATEVER THE INPUT: true; the input reads as it did. -/
def diffWaysSpec : ChangeSpec := { name := "diffWays", fn := fun _ => fun
  | [d1, d2, d3] => { results := [.lit (.bool true)], args := [d1, d2, d3] }
  | _ => none }
def diffWaysRow : OpenClaim := { program := "ytodfjghgcphhhab", sum := "47b2f7e4f5953af5d955e0769657f1caf96eb50ab1aa99d3487c5755cfffb323", func := "hoistway/hoistwaylaw38.DiffWays", spec := "diffWays", unfollowed := true, recurses := true, plainKeys := false, apart := false }
def DiffWaysSaid : Prop := diffWaysRow.holds Try.pinned (OpenSpec.ofChange diffWaysSpec)

/-- ITS FALSE NEIGHBOUR: 'it returns false'. Refute it at one input. -/
def diffWaysWrong : ChangeSpec := { name := "diffWays", fn := fun _ => fun
  | [d1, d2, d3] => { results := [.lit (.bool false)], args := [d1, d2, d3] }
  | _ => none }
def DiffWaysWrongFalsely : Prop := diffWaysRow.holds Try.pinned (OpenSpec.ofChange diffWaysWrong)

/-- 'hoistwaylaw58.ObserveKinds': WHATEVER THE INPUT: true; the input reads as it did. -/
def observeKindsSpec : ChangeSpec := { name := "observeKinds", fn := fun _ => fun
  | [d] => { results := [.lit (.bool true)], args := [d] }
  | _ => none }
def observeKindsRow : OpenClaim := { program := "ytodfjghgcphhhab", sum := "47b2f7e4f5953af5d955e0769657f1caf96eb50ab1aa99d3487c5755cfffb323", func := "hoistway/hoistwaylaw58.ObserveKinds", spec := "observeKinds", plainKeys := false, apart := false }
def ObserveKindsSaid : Prop := observeKindsRow.holds Try.pinned (OpenSpec.ofChange observeKindsSpec)

/-- ITS FALSE NEIGHBOUR: 'it returns false'. Refute it at one input. -/
def observeKindsWrong : ChangeSpec := { name := "observeKinds", fn := fun _ => fun
  | [d] => { results := [.lit (.bool false)], args := [d] }
  | _ => none }
def ObserveKindsWrongFalsely : Prop := observeKindsRow.holds Try.pinned (OpenSpec.ofChange observeKindsWrong)

/-- 'hoistwaylaw38.DiffChanged': WHATEVER THE INPUT: true; the input reads as it did. -/
def diffChangedSpec : ChangeSpec := { name := "diffChanged", fn := fun _ => fun
  | [d1, d2] => { results := [.lit (.bool true)], args := [d1, d2] }
  | _ => none }
def diffChangedRow : OpenClaim := { program := "ytodfjghgcphhhab", sum := "47b2f7e4f5953af5d955e0769657f1caf96eb50ab1aa99d3487c5755cfffb323", func := "hoistway/hoistwaylaw38.DiffChanged", spec := "diffChanged", unfollowed := true, recurses := true, plainKeys := false, apart := false }
def DiffChangedSaid : Prop := diffChangedRow.holds Try.pinned (OpenSpec.ofChange diffChangedSpec)

/-- ITS FALSE NEIGHBOUR: 'it returns false'. Refute it at one input. -/
def diffChangedWrong : ChangeSpec := { name := "diffChanged", fn := fun _ => fun
  | [d1, d2] => { results := [.lit (.bool false)], args := [d1, d2] }
  | _ => none }
def DiffChangedWrongFalsely : Prop := diffChangedRow.holds Try.pinned (OpenSpec.ofChange diffChangedWrong)

/-- 'hoistwaylaw58.ObserveStops': WHATEVER THE INPUT: true; the input reads as it did. -/
def observeStopsSpec : ChangeSpec := { name := "observeStops", fn := fun _ => fun
  | [d1, d2, d3] => { results := [.lit (.bool true)], args := [d1, d2, d3] }
  | _ => none }
def observeStopsRow : OpenClaim := { program := "ytodfjghgcphhhab", sum := "47b2f7e4f5953af5d955e0769657f1caf96eb50ab1aa99d3487c5755cfffb323", func := "hoistway/hoistwaylaw58.ObserveStops", spec := "observeStops", unfollowed := true, recurses := true, plainKeys := false, apart := false }
def ObserveStopsSaid : Prop := observeStopsRow.holds Try.pinned (OpenSpec.ofChange observeStopsSpec)

/-- ITS FALSE NEIGHBOUR: 'it returns false'. Refute it at one input. -/
def observeStopsWrong : ChangeSpec := { name := "observeStops", fn := fun _ => fun
  | [d1, d2, d3] => { results := [.lit (.bool false)], args := [d1, d2, d3] }
  | _ => none }
def ObserveStopsWrongFalsely : Prop := observeStopsRow.holds Try.pinned (OpenSpec.ofChange observeStopsWrong)

/- THE SECOND FORM. 'bulk': how many values and letters a reading holds, each counted each time it is reached (what is shared counts as often as it is met; a slice's spare places count too). A statement '..UptoSaid' is the law's where the arguments, and the package variables that the reading takes, are together of bulk at most 1048576: NARROWER than '..Said'. Prove '..Said' where nothing that the law and all that it calls make is longer than what came in: it says more and counts as full. Else prove '..UptoSaid'. A law counts once. -/
mutual
def uptoBulk {H : Type} : DataW H → Nat
  | .lit (.string bytes) => bytes.length + 1
  | .lit _ => 1
  | .nil => 1
  | .ptr d => uptoBulk d + 1
  | .slice elems spare => uptoBulkAll elems + uptoBulkAll spare + 1
  | .agg parts => uptoBulkAll parts + 1
  | .iface _ d => uptoBulk d + 1
  | .map entries => uptoBulkEntries entries + 1
  | .held _ => 1
def uptoBulkAll {H : Type} : List (DataW H) → Nat
  | [] => 0
  | d :: r => uptoBulk d + uptoBulkAll r
def uptoBulkEntries {H : Type} : List (Lit × DataW H) → Nat
  | [] => 0
  | x :: r => uptoBulkEntry x + uptoBulkEntries r
def uptoBulkEntry {H : Type} : Lit × DataW H → Nat
  | (.string bytes, d) => bytes.length + uptoBulk d + 1
  | (_, d) => uptoBulk d + 1
 end
def uptoSmall : (H : Type) → List (DataW H) → Bool := fun _ ds => decide (uptoBulkAll ds ≤ 1048576)
def OpenSpec.upto (s : _root_.Go.ChangeSpec) : _root_.Go.OpenSpec := { _root_.Go.OpenSpec.ofChange s with cond := some uptoSmall }

/-- 'hoistwaylaw38.DiffWays', WHERE WHAT IT READS IS OF BULK AT MOST 1048576: true; the input reads as it did. -/
def diffWaysUptoRow : OpenClaim := { program := "ytodfjghgcphhhab", sum := "47b2f7e4f5953af5d955e0769657f1caf96eb50ab1aa99d3487c5755cfffb323", func := "hoistway/hoistwaylaw38.DiffWays", spec := "diffWays", unfollowed := true, recurses := true, plainKeys := false, apart := false, narrowed := true }
def DiffWaysUptoSaid : Prop := diffWaysUptoRow.holds Try.pinned (OpenSpec.upto diffWaysSpec)

/-- 'hoistwaylaw58.ObserveKinds', WHERE WHAT IT READS IS OF BULK AT MOST 1048576: true; the input reads as it did. -/
def observeKindsUptoRow : OpenClaim := { program := "ytodfjghgcphhhab", sum := "47b2f7e4f5953af5d955e0769657f1caf96eb50ab1aa99d3487c5755cfffb323", func := "hoistway/hoistwaylaw58.ObserveKinds", spec := "observeKinds", plainKeys := false, apart := false, narrowed := true }
def ObserveKindsUptoSaid : Prop := observeKindsUptoRow.holds Try.pinned (OpenSpec.upto observeKindsSpec)

/-- 'hoistwaylaw38.DiffChanged', WHERE WHAT IT READS IS OF BULK AT MOST 1048576: true; the input reads as it did. -/
def diffChangedUptoRow : OpenClaim := { program := "ytodfjghgcphhhab", sum := "47b2f7e4f5953af5d955e0769657f1caf96eb50ab1aa99d3487c5755cfffb323", func := "hoistway/hoistwaylaw38.DiffChanged", spec := "diffChanged", unfollowed := true, recurses := true, plainKeys := false, apart := false, narrowed := true }
def DiffChangedUptoSaid : Prop := diffChangedUptoRow.holds Try.pinned (OpenSpec.upto diffChangedSpec)

/-- 'hoistwaylaw58.ObserveStops', WHERE WHAT IT READS IS OF BULK AT MOST 1048576: true; the input reads as it did. -/
def observeStopsUptoRow : OpenClaim := { program := "ytodfjghgcphhhab", sum := "47b2f7e4f5953af5d955e0769657f1caf96eb50ab1aa99d3487c5755cfffb323", func := "hoistway/hoistwaylaw58.ObserveStops", spec := "observeStops", unfollowed := true, recurses := true, plainKeys := false, apart := false, narrowed := true }
def ObserveStopsUptoSaid : Prop := observeStopsUptoRow.holds Try.pinned (OpenSpec.upto observeStopsSpec)

end Rows
end Go.Proofs.Ytodfjghgcphhhab
