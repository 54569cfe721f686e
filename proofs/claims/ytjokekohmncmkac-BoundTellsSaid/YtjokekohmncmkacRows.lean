/-
  No cell of these rows narrows 'for every input' (looked for: loops, veiled, ifaces, maps, wideKeys, modest, calm, conditions, laid).
  DERIVED. THE GIVEN ROWS OF THIS SEAT. 8 by the template 'for every input the law returns true; each argument reads behind the call as it read before'; 0 by the template 'total and deterministic' (their statements: YtjokekohmncmkacTotals.lean).
  GIVEN WITH THE SEED: the statements are not yours to turn. If you find one false, say at which input.
  Laid BY PROGRAM, IN A SANDBOX (cutbox-rows.mjs): the forced cells as the released guide's own fill.sh prints them over the translation 31df8ddcc444e947… (all of the seat's roots in one cut). By AI agents, Wed Nov 11 2026. No macro, syntax, notation, axiom, sorry.
-/
import Derived.Test.YtjokekohmncmkacChecked
import GoSem.Claim
import GoSem.ClaimJoined
import GoSem.ClaimMapViews
import Derived.JoinedTies
import Derived.KernelRfl
namespace Go.Proofs.Ytjokekohmncmkac
/- THE CELL 'sum', in the pinned program and in every row, IS THE sha256 OF THE DUMP (.gsa) THAT YtjokekohmncmkacProg.lean LOADS. Nothing in Lean hashes anything: it is a label: what it is worth is what the hold of that sum in a sandbox is worth. -/
noncomputable def Try.pinned : Pinned := { name := "ytjokekohmncmkac", sum := "31df8ddcc444e9473883d5ba45d658939906d5a444fa0c31f426879ff5555033", checked := Try.checked }
namespace Rows
def none {H : Type} : Left H := { results := [], args := [] }

/-- 'hoistwaylaw21.DemandPairs': WHATEVER THE INPUT: true; the input reads as it did. -/
def demandPairsSpec : ChangeSpec := { name := "demandPairs", fn := fun _ => fun
  | [d1, d2, d3] => { results := [.lit (.bool true)], args := [d1, d2, d3] }
  | _ => none }
def demandPairsRow : OpenClaim := { program := "ytjokekohmncmkac", sum := "31df8ddcc444e9473883d5ba45d658939906d5a444fa0c31f426879ff5555033", func := "hoistway/hoistwaylaw21.DemandPairs", spec := "demandPairs", unfollowed := true, recurses := true, plainKeys := false, apart := false }
def DemandPairsSaid : Prop := demandPairsRow.holds Try.pinned (OpenSpec.ofChange demandPairsSpec)

/-- ITS FALSE NEIGHBOUR: 'it returns false'. Refute it at one input. -/
def demandPairsWrong : ChangeSpec := { name := "demandPairs", fn := fun _ => fun
  | [d1, d2, d3] => { results := [.lit (.bool false)], args := [d1, d2, d3] }
  | _ => none }
def DemandPairsWrongFalsely : Prop := demandPairsRow.holds Try.pinned (OpenSpec.ofChange demandPairsWrong)

/-- 'hoistwaylaw21.DemandOf': WHATEVER THE INPUT: true; the input reads as it did. -/
def demandOfSpec : ChangeSpec := { name := "demandOf", fn := fun _ => fun
  | [d1, d2] => { results := [.lit (.bool true)], args := [d1, d2] }
  | _ => none }
def demandOfRow : OpenClaim := { program := "ytjokekohmncmkac", sum := "31df8ddcc444e9473883d5ba45d658939906d5a444fa0c31f426879ff5555033", func := "hoistway/hoistwaylaw21.DemandOf", spec := "demandOf", unfollowed := true, recurses := true, plainKeys := false, apart := false }
def DemandOfSaid : Prop := demandOfRow.holds Try.pinned (OpenSpec.ofChange demandOfSpec)

/-- ITS FALSE NEIGHBOUR: 'it returns false'. Refute it at one input. -/
def demandOfWrong : ChangeSpec := { name := "demandOf", fn := fun _ => fun
  | [d1, d2] => { results := [.lit (.bool false)], args := [d1, d2] }
  | _ => none }
def DemandOfWrongFalsely : Prop := demandOfRow.holds Try.pinned (OpenSpec.ofChange demandOfWrong)

/-- 'hoistwaylaw22.WhenTells': WHATEVER THE INPUT: true; the input reads as it did. -/
def whenTellsSpec : ChangeSpec := { name := "whenTells", fn := fun _ => fun
  | [d1, d2, d3] => { results := [.lit (.bool true)], args := [d1, d2, d3] }
  | _ => none }
def whenTellsRow : OpenClaim := { program := "ytjokekohmncmkac", sum := "31df8ddcc444e9473883d5ba45d658939906d5a444fa0c31f426879ff5555033", func := "hoistway/hoistwaylaw22.WhenTells", spec := "whenTells", plainKeys := false, apart := false }
def WhenTellsSaid : Prop := whenTellsRow.holds Try.pinned (OpenSpec.ofChange whenTellsSpec)

/-- ITS FALSE NEIGHBOUR: 'it returns false'. Refute it at one input. -/
def whenTellsWrong : ChangeSpec := { name := "whenTells", fn := fun _ => fun
  | [d1, d2, d3] => { results := [.lit (.bool false)], args := [d1, d2, d3] }
  | _ => none }
def WhenTellsWrongFalsely : Prop := whenTellsRow.holds Try.pinned (OpenSpec.ofChange whenTellsWrong)

/-- 'hoistwaylaw22.WhenTicks': WHATEVER THE INPUT: true; the input reads as it did. -/
def whenTicksSpec : ChangeSpec := { name := "whenTicks", fn := fun _ => fun
  | [d] => { results := [.lit (.bool true)], args := [d] }
  | _ => none }
def whenTicksRow : OpenClaim := { program := "ytjokekohmncmkac", sum := "31df8ddcc444e9473883d5ba45d658939906d5a444fa0c31f426879ff5555033", func := "hoistway/hoistwaylaw22.WhenTicks", spec := "whenTicks", plainKeys := false, apart := false }
def WhenTicksSaid : Prop := whenTicksRow.holds Try.pinned (OpenSpec.ofChange whenTicksSpec)

/-- ITS FALSE NEIGHBOUR: 'it returns false'. Refute it at one input. -/
def whenTicksWrong : ChangeSpec := { name := "whenTicks", fn := fun _ => fun
  | [d] => { results := [.lit (.bool false)], args := [d] }
  | _ => none }
def WhenTicksWrongFalsely : Prop := whenTicksRow.holds Try.pinned (OpenSpec.ofChange whenTicksWrong)

/-- 'hoistwaylaw23.BoundTells': WHATEVER THE INPUT: true; the input reads as it did. -/
def boundTellsSpec : ChangeSpec := { name := "boundTells", fn := fun _ => fun
  | [d1, d2, d3] => { results := [.lit (.bool true)], args := [d1, d2, d3] }
  | _ => none }
def boundTellsRow : OpenClaim := { program := "ytjokekohmncmkac", sum := "31df8ddcc444e9473883d5ba45d658939906d5a444fa0c31f426879ff5555033", func := "hoistway/hoistwaylaw23.BoundTells", spec := "boundTells", plainKeys := false, apart := false }
def BoundTellsSaid : Prop := boundTellsRow.holds Try.pinned (OpenSpec.ofChange boundTellsSpec)

/-- ITS FALSE NEIGHBOUR: 'it returns false'. Refute it at one input. -/
def boundTellsWrong : ChangeSpec := { name := "boundTells", fn := fun _ => fun
  | [d1, d2, d3] => { results := [.lit (.bool false)], args := [d1, d2, d3] }
  | _ => none }
def BoundTellsWrongFalsely : Prop := boundTellsRow.holds Try.pinned (OpenSpec.ofChange boundTellsWrong)

/-- 'hoistwaylaw24.TripCounts': WHATEVER THE INPUT: true; the input reads as it did. -/
def tripCountsSpec : ChangeSpec := { name := "tripCounts", fn := fun _ => fun
  | [d1, d2] => { results := [.lit (.bool true)], args := [d1, d2] }
  | _ => none }
def tripCountsRow : OpenClaim := { program := "ytjokekohmncmkac", sum := "31df8ddcc444e9473883d5ba45d658939906d5a444fa0c31f426879ff5555033", func := "hoistway/hoistwaylaw24.TripCounts", spec := "tripCounts", plainKeys := false, apart := false }
def TripCountsSaid : Prop := tripCountsRow.holds Try.pinned (OpenSpec.ofChange tripCountsSpec)

/-- ITS FALSE NEIGHBOUR: 'it returns false'. Refute it at one input. -/
def tripCountsWrong : ChangeSpec := { name := "tripCounts", fn := fun _ => fun
  | [d1, d2] => { results := [.lit (.bool false)], args := [d1, d2] }
  | _ => none }
def TripCountsWrongFalsely : Prop := tripCountsRow.holds Try.pinned (OpenSpec.ofChange tripCountsWrong)

/-- 'hoistwaylaw24.TripTimes': WHATEVER THE INPUT: true; the input reads as it did. -/
def tripTimesSpec : ChangeSpec := { name := "tripTimes", fn := fun _ => fun
  | [d1, d2] => { results := [.lit (.bool true)], args := [d1, d2] }
  | _ => none }
def tripTimesRow : OpenClaim := { program := "ytjokekohmncmkac", sum := "31df8ddcc444e9473883d5ba45d658939906d5a444fa0c31f426879ff5555033", func := "hoistway/hoistwaylaw24.TripTimes", spec := "tripTimes", unfollowed := true, recurses := true, plainKeys := false, apart := false }
def TripTimesSaid : Prop := tripTimesRow.holds Try.pinned (OpenSpec.ofChange tripTimesSpec)

/-- ITS FALSE NEIGHBOUR: 'it returns false'. Refute it at one input. -/
def tripTimesWrong : ChangeSpec := { name := "tripTimes", fn := fun _ => fun
  | [d1, d2] => { results := [.lit (.bool false)], args := [d1, d2] }
  | _ => none }
def TripTimesWrongFalsely : Prop := tripTimesRow.holds Try.pinned (OpenSpec.ofChange tripTimesWrong)

/-- 'hoistwaylaw54.ParetoFronts': WHATEVER THE INPUT: true; the input reads as it did. -/
def paretoFrontsSpec : ChangeSpec := { name := "paretoFronts", fn := fun _ => fun
  | [d1, d2, d3] => { results := [.lit (.bool true)], args := [d1, d2, d3] }
  | _ => none }
def paretoFrontsRow : OpenClaim := { program := "ytjokekohmncmkac", sum := "31df8ddcc444e9473883d5ba45d658939906d5a444fa0c31f426879ff5555033", func := "hoistway/hoistwaylaw54.ParetoFronts", spec := "paretoFronts", unfollowed := true, recurses := true, plainKeys := false, apart := false }
def ParetoFrontsSaid : Prop := paretoFrontsRow.holds Try.pinned (OpenSpec.ofChange paretoFrontsSpec)

/-- ITS FALSE NEIGHBOUR: 'it returns false'. Refute it at one input. -/
def paretoFrontsWrong : ChangeSpec := { name := "paretoFronts", fn := fun _ => fun
  | [d1, d2, d3] => { results := [.lit (.bool false)], args := [d1, d2, d3] }
  | _ => none }
def ParetoFrontsWrongFalsely : Prop := paretoFrontsRow.holds Try.pinned (OpenSpec.ofChange paretoFrontsWrong)

/- THE SECOND FORM. 'bulk': how many values and letters a reading holds, each counted each time it is reached (what is shared counts as often as it is met; a slice's spare places count too). A statement '..UptoSaid' is the law's where the arguments, and the package variables that the reading takes, are together of bulk at most 1048576: NARROWER than '..Said'. Prove '..Said' where nothing that the law and all that it calls make is longer than what came in: it says more and counts as full. Else prove '..UptoSaid'. A law counts once. -/
mutual
def uptoBulk {H : Type} : DataW H → Nat
  | .lit (.string bytes) => bytes.length + 1
  | .lit _ => 1
  | .nil => 1
  | .ptr d => uptoBulk d + 1
  | .slice elems spare => uptoBulkAll elems + uptoBulkAll spare + 1
  | .agg parts => uptoBulkAll parts + 1
  | .iface _ d => uptoBulk d + 1
  | .map entries => uptoBulkEntries entries + 1
  | .held _ => 1
def uptoBulkAll {H : Type} : List (DataW H) → Nat
  | [] => 0
  | d :: r => uptoBulk d + uptoBulkAll r
def uptoBulkEntries {H : Type} : List (Lit × DataW H) → Nat
  | [] => 0
  | x :: r => uptoBulkEntry x + uptoBulkEntries r
def uptoBulkEntry {H : Type} : Lit × DataW H → Nat
  | (.string bytes, d) => bytes.length + uptoBulk d + 1
  | (_, d) => uptoBulk d + 1
 end
def uptoSmall : (H : Type) → List (DataW H) → Bool := fun _ ds => decide (uptoBulkAll ds ≤ 1048576)
def OpenSpec.upto (s : _root_.Go.ChangeSpec) : _root_.Go.OpenSpec := { _root_.Go.OpenSpec.ofChange s with cond := some uptoSmall }

/-- 'hoistwaylaw21.DemandPairs', WHERE WHAT IT READS IS OF BULK AT MOST 1048576: true; the input reads as it did. -/
def demandPairsUptoRow : OpenClaim := { program := "ytjokekohmncmkac", sum := "31df8ddcc444e9473883d5ba45d658939906d5a444fa0c31f426879ff5555033", func := "hoistway/hoistwaylaw21.DemandPairs", spec := "demandPairs", unfollowed := true, recurses := true, plainKeys := false, apart := false, narrowed := true }
def DemandPairsUptoSaid : Prop := demandPairsUptoRow.holds Try.pinned (OpenSpec.upto demandPairsSpec)

/-- 'hoistwaylaw21.DemandOf', WHERE WHAT IT READS IS OF BULK AT MOST 1048576: true; the input reads as it did. -/
def demandOfUptoRow : OpenClaim := { program := "ytjokekohmncmkac", sum := "31df8ddcc444e9473883d5ba45d658939906d5a444fa0c31f426879ff5555033", func := "hoistway/hoistwaylaw21.DemandOf", spec := "demandOf", unfollowed := true, recurses := true, plainKeys := false, apart := false, narrowed := true }
def DemandOfUptoSaid : Prop := demandOfUptoRow.holds Try.pinned (OpenSpec.upto demandOfSpec)

/-- 'hoistwaylaw22.WhenTells', WHERE WHAT IT READS IS OF BULK AT MOST 1048576: true; the input reads as it did. -/
def whenTellsUptoRow : OpenClaim := { program := "ytjokekohmncmkac", sum := "31df8ddcc444e9473883d5ba45d658939906d5a444fa0c31f426879ff5555033", func := "hoistway/hoistwaylaw22.WhenTells", spec := "whenTells", plainKeys := false, apart := false, narrowed := true }
def WhenTellsUptoSaid : Prop := whenTellsUptoRow.holds Try.pinned (OpenSpec.upto whenTellsSpec)

/-- 'hoistwaylaw22.WhenTicks', WHERE WHAT IT READS IS OF BULK AT MOST 1048576: true; the input reads as it did. -/
def whenTicksUptoRow : OpenClaim := { program := "ytjokekohmncmkac", sum := "31df8ddcc444e9473883d5ba45d658939906d5a444fa0c31f426879ff5555033", func := "hoistway/hoistwaylaw22.WhenTicks", spec := "whenTicks", plainKeys := false, apart := false, narrowed := true }
def WhenTicksUptoSaid : Prop := whenTicksUptoRow.holds Try.pinned (OpenSpec.upto whenTicksSpec)

/-- 'hoistwaylaw23.BoundTells', WHERE WHAT IT READS IS OF BULK AT MOST 1048576: true; the input reads as it did. -/
def boundTellsUptoRow : OpenClaim := { program := "ytjokekohmncmkac", sum := "31df8ddcc444e9473883d5ba45d658939906d5a444fa0c31f426879ff5555033", func := "hoistway/hoistwaylaw23.BoundTells", spec := "boundTells", plainKeys := false, apart := false, narrowed := true }
def BoundTellsUptoSaid : Prop := boundTellsUptoRow.holds Try.pinned (OpenSpec.upto boundTellsSpec)

/-- 'hoistwaylaw24.TripCounts', WHERE WHAT IT READS IS OF BULK AT MOST 1048576: true; the input reads as it did. -/
def tripCountsUptoRow : OpenClaim := { program := "ytjokekohmncmkac", sum := "31df8ddcc444e9473883d5ba45d658939906d5a444fa0c31f426879ff5555033", func := "hoistway/hoistwaylaw24.TripCounts", spec := "tripCounts", plainKeys := false, apart := false, narrowed := true }
def TripCountsUptoSaid : Prop := tripCountsUptoRow.holds Try.pinned (OpenSpec.upto tripCountsSpec)

/-- 'hoistwaylaw24.TripTimes', WHERE WHAT IT READS IS OF BULK AT MOST 1048576: true; the input reads as it did. -/
def tripTimesUptoRow : OpenClaim := { program := "ytjokekohmncmkac", sum := "31df8ddcc444e9473883d5ba45d658939906d5a444fa0c31f426879ff5555033", func := "hoistway/hoistwaylaw24.TripTimes", spec := "tripTimes", unfollowed := true, recurses := true, plainKeys := false, apart := false, narrowed := true }
def TripTimesUptoSaid : Prop := tripTimesUptoRow.holds Try.pinned (OpenSpec.upto tripTimesSpec)

/-- 'hoistwaylaw54.ParetoFronts', WHERE WHAT IT READS IS OF BULK AT MOST 1048576: true; the input reads as it did. -/
def paretoFrontsUptoRow : OpenClaim := { program := "ytjokekohmncmkac", sum := "31df8ddcc444e9473883d5ba45d658939906d5a444fa0c31f426879ff5555033", func := "hoistway/hoistwaylaw54.ParetoFronts", spec := "paretoFronts", unfollowed := true, recurses := true, plainKeys := false, apart := false, narrowed := true }
def ParetoFrontsUptoSaid : Prop := paretoFrontsUptoRow.holds Try.pinned (OpenSpec.upto paretoFrontsSpec)

end Rows
end Go.Proofs.Ytjokekohmncmkac
