/-
  No cell of these rows narrows 'for every input' (looked for: loops, veiled, ifaces, maps, wideKeys, modest, calm, conditions, laid).
  DERIVED. THE GIVEN ROWS OF THIS SEAT. 9 by the template 'for every input the law returns true; each argument reads behind the call as it read before'; 0 by the template 'total and deterministic' (their statements: YtjokekohmncmkadTotals.lean).
  GIVEN WITH THE SEED: the statements are not yours to turn. If you find one false, say at which input.
  Laid BY PROGRAM, IN A SANDBOX (cutbox-rows.mjs): the forced cells as the released guide's own fill.sh prints them over the translation a7c5e25faa5904da… (all of the seat's roots in one cut). By AI agents, Wed Nov 11 2026. No macro, syntax, notation, axiom, sorry.
-/
import Derived.Test.YtjokekohmncmkadChecked
import GoSem.Claim
import GoSem.ClaimJoined
import GoSem.ClaimMapViews
import Derived.JoinedTies
import Derived.KernelRfl
namespace Go.Proofs.Ytjokekohmncmkad
/- THE CELL 'sum', in the pinned program and in every row, IS THE sha256 OF THE DUMP (.gsa) THAT YtjokekohmncmkadProg.lean LOADS. Nothing in Lean hashes anything: it is a label: what it is worth is what the hold of that sum in a sandbox is worth. -/
noncomputable def Try.pinned : Pinned := { name := "ytjokekohmncmkad", sum := "a7c5e25faa5904daaf8f91a59ea036793a5582e8605114b81e6db4454185e87d", checked := Try.checked }
namespace Rows
def none {H : Type} : Left H := { results := [], args := [] }

/-- 'hoistwaylaw54.ParetoLayers': WHATEVER THE INPUT: true; the input reads as it did. -/
def paretoLayersSpec : ChangeSpec := { name := "paretoLayers", fn := fun _ => fun
  | [d] => { results := [.lit (.bool true)], args := [d] }
  | _ => none }
def paretoLayersRow : OpenClaim := { program := "ytjokekohmncmkad", sum := "a7c5e25faa5904daaf8f91a59ea036793a5582e8605114b81e6db4454185e87d", func := "hoistway/hoistwaylaw54.ParetoLayers", spec := "paretoLayers", unfollowed := true, recurses := true, apart := false }
def ParetoLayersSaid : Prop := paretoLayersRow.holds Try.pinned (OpenSpec.ofChange paretoLayersSpec)

/-- ITS FALSE NEIGHBOUR: 'it returns false'. Refute it at one input. -/
def paretoLayersWrong : ChangeSpec := { name := "paretoLayers", fn := fun _ => fun
  | [d] => { results := [.lit (.bool false)], args := [d] }
  | _ => none }
def ParetoLayersWrongFalsely : Prop := paretoLayersRow.holds Try.pinned (OpenSpec.ofChange paretoLayersWrong)

/-- 'hoistwaylaw55.BarsLong': WHATEVER THE INPUT: true; the input reads as it did. -/
def barsLongSpec : ChangeSpec := { name := "barsLong", fn := fun _ => fun
  | [d1, d2, d3] => { results := [.lit (.bool true)], args := [d1, d2, d3] }
  | _ => none }
def barsLongRow : OpenClaim := { program := "ytjokekohmncmkad", sum := "a7c5e25faa5904daaf8f91a59ea036793a5582e8605114b81e6db4454185e87d", func := "hoistway/hoistwaylaw55.BarsLong", spec := "barsLong", named := ["math/bits.divideError", "math/bits.overflowError"], apart := false }
def BarsLongSaid : Prop := barsLongRow.holds Try.pinned (OpenSpec.ofChange barsLongSpec)

/-- ITS FALSE NEIGHBOUR: 'it returns false'. Refute it at one input. -/
def barsLongWrong : ChangeSpec := { name := "barsLong", fn := fun _ => fun
  | [d1, d2, d3] => { results := [.lit (.bool false)], args := [d1, d2, d3] }
  | _ => none }
def BarsLongWrongFalsely : Prop := barsLongRow.holds Try.pinned (OpenSpec.ofChange barsLongWrong)

/-- 'hoistwaylaw56.ProbParts': WHATEVER THE INPUT: true; the input reads as it did. -/
def probPartsSpec : ChangeSpec := { name := "probParts", fn := fun _ => fun
  | [d1, d2, d3] => { results := [.lit (.bool true)], args := [d1, d2, d3] }
  | _ => none }
def probPartsRow : OpenClaim := { program := "ytjokekohmncmkad", sum := "a7c5e25faa5904daaf8f91a59ea036793a5582e8605114b81e6db4454185e87d", func := "hoistway/hoistwaylaw56.ProbParts", spec := "probParts", apart := false }
def ProbPartsSaid : Prop := probPartsRow.holds Try.pinned (OpenSpec.ofChange probPartsSpec)

/-- ITS FALSE NEIGHBOUR: 'it returns false'. Refute it at one input. -/
def probPartsWrong : ChangeSpec := { name := "probParts", fn := fun _ => fun
  | [d1, d2, d3] => { results := [.lit (.bool false)], args := [d1, d2, d3] }
  | _ => none }
def ProbPartsWrongFalsely : Prop := probPartsRow.holds Try.pinned (OpenSpec.ofChange probPartsWrong)

/-- 'hoistwaylaw56.ProbRounds': WHATEVER THE INPUT: true; the input reads as it did. -/
def probRoundsSpec : ChangeSpec := { name := "probRounds", fn := fun _ => fun
  | [d1, d2, d3] => { results := [.lit (.bool true)], args := [d1, d2, d3] }
  | _ => none }
def probRoundsRow : OpenClaim := { program := "ytjokekohmncmkad", sum := "a7c5e25faa5904daaf8f91a59ea036793a5582e8605114b81e6db4454185e87d", func := "hoistway/hoistwaylaw56.ProbRounds", spec := "probRounds", apart := false }
def ProbRoundsSaid : Prop := probRoundsRow.holds Try.pinned (OpenSpec.ofChange probRoundsSpec)

/-- ITS FALSE NEIGHBOUR: 'it returns false'. Refute it at one input. -/
def probRoundsWrong : ChangeSpec := { name := "probRounds", fn := fun _ => fun
  | [d1, d2, d3] => { results := [.lit (.bool false)], args := [d1, d2, d3] }
  | _ => none }
def ProbRoundsWrongFalsely : Prop := probRoundsRow.holds Try.pinned (OpenSpec.ofChange probRoundsWrong)

/-- 'hoistwaylaw56.ProbBounds': WHATEVER THE INPUT: true; the input reads as it did. -/
def probBoundsSpec : ChangeSpec := { name := "probBounds", fn := fun _ => fun
  | [d1, d2] => { results := [.lit (.bool true)], args := [d1, d2] }
  | _ => none }
def probBoundsRow : OpenClaim := { program := "ytjokekohmncmkad", sum := "a7c5e25faa5904daaf8f91a59ea036793a5582e8605114b81e6db4454185e87d", func := "hoistway/hoistwaylaw56.ProbBounds", spec := "probBounds", apart := false }
def ProbBoundsSaid : Prop := probBoundsRow.holds Try.pinned (OpenSpec.ofChange probBoundsSpec)

/-- ITS FALSE NEIGHBOUR: 'it returns false'. Refute it at one input. -/
def probBoundsWrong : ChangeSpec := { name := "probBounds", fn := fun _ => fun
  | [d1, d2] => { results := [.lit (.bool false)], args := [d1, d2] }
  | _ => none }
def ProbBoundsWrongFalsely : Prop := probBoundsRow.holds Try.pinned (OpenSpec.ofChange probBoundsWrong)

/-- 'hoistwaylaw68.RotaPlays': WHATEVER THE INPUT: true; the input reads as it did. -/
def rotaPlaysSpec : ChangeSpec := { name := "rotaPlays", fn := fun _ => fun
  | [d1, d2] => { results := [.lit (.bool true)], args := [d1, d2] }
  | _ => none }
def rotaPlaysRow : OpenClaim := { program := "ytjokekohmncmkad", sum := "a7c5e25faa5904daaf8f91a59ea036793a5582e8605114b81e6db4454185e87d", func := "hoistway/hoistwaylaw68.RotaPlays", spec := "rotaPlays", unfollowed := true, recurses := true, apart := false }
def RotaPlaysSaid : Prop := rotaPlaysRow.holds Try.pinned (OpenSpec.ofChange rotaPlaysSpec)

/-- ITS FALSE NEIGHBOUR: 'it returns false'. Refute it at one input. -/
def rotaPlaysWrong : ChangeSpec := { name := "rotaPlays", fn := fun _ => fun
  | [d1, d2] => { results := [.lit (.bool false)], args := [d1, d2] }
  | _ => none }
def RotaPlaysWrongFalsely : Prop := rotaPlaysRow.holds Try.pinned (OpenSpec.ofChange rotaPlaysWrong)

/-- 'hoistwaylaw69.ShuffleOrders': WHATEVER THE INPUT: true; the input reads as it did. -/
def shuffleOrdersSpec : ChangeSpec := { name := "shuffleOrders", fn := fun _ => fun
  | [d1, d2, d3] => { results := [.lit (.bool true)], args := [d1, d2, d3] }
  | _ => none }
def shuffleOrdersRow : OpenClaim := { program := "ytjokekohmncmkad", sum := "a7c5e25faa5904daaf8f91a59ea036793a5582e8605114b81e6db4454185e87d", func := "hoistway/hoistwaylaw69.ShuffleOrders", spec := "shuffleOrders", apart := false }
def ShuffleOrdersSaid : Prop := shuffleOrdersRow.holds Try.pinned (OpenSpec.ofChange shuffleOrdersSpec)

/-- ITS FALSE NEIGHBOUR: 'it returns false'. Refute it at one input. -/
def shuffleOrdersWrong : ChangeSpec := { name := "shuffleOrders", fn := fun _ => fun
  | [d1, d2, d3] => { results := [.lit (.bool false)], args := [d1, d2, d3] }
  | _ => none }
def ShuffleOrdersWrongFalsely : Prop := shuffleOrdersRow.holds Try.pinned (OpenSpec.ofChange shuffleOrdersWrong)

/-- 'hoistwaylaw69.ShuffleSome': WHATEVER THE INPUT: true; the input reads as it did. -/
def shuffleSomeSpec : ChangeSpec := { name := "shuffleSome", fn := fun _ => fun
  | [d1, d2, d3] => { results := [.lit (.bool true)], args := [d1, d2, d3] }
  | _ => none }
def shuffleSomeRow : OpenClaim := { program := "ytjokekohmncmkad", sum := "a7c5e25faa5904daaf8f91a59ea036793a5582e8605114b81e6db4454185e87d", func := "hoistway/hoistwaylaw69.ShuffleSome", spec := "shuffleSome", apart := false }
def ShuffleSomeSaid : Prop := shuffleSomeRow.holds Try.pinned (OpenSpec.ofChange shuffleSomeSpec)

/-- ITS FALSE NEIGHBOUR: 'it returns false'. Refute it at one input. -/
def shuffleSomeWrong : ChangeSpec := { name := "shuffleSome", fn := fun _ => fun
  | [d1, d2, d3] => { results := [.lit (.bool false)], args := [d1, d2, d3] }
  | _ => none }
def ShuffleSomeWrongFalsely : Prop := shuffleSomeRow.holds Try.pinned (OpenSpec.ofChange shuffleSomeWrong)

/-- 'hoistwaylaw69.ShuffleBack': WHATEVER THE INPUT: true; the input reads as it did. -/
def shuffleBackSpec : ChangeSpec := { name := "shuffleBack", fn := fun _ => fun
  | [d] => { results := [.lit (.bool true)], args := [d] }
  | _ => none }
def shuffleBackRow : OpenClaim := { program := "ytjokekohmncmkad", sum := "a7c5e25faa5904daaf8f91a59ea036793a5582e8605114b81e6db4454185e87d", func := "hoistway/hoistwaylaw69.ShuffleBack", spec := "shuffleBack", apart := false }
def ShuffleBackSaid : Prop := shuffleBackRow.holds Try.pinned (OpenSpec.ofChange shuffleBackSpec)

/-- ITS FALSE NEIGHBOUR: 'it returns false'. Refute it at one input. -/
def shuffleBackWrong : ChangeSpec := { name := "shuffleBack", fn := fun _ => fun
  | [d] => { results := [.lit (.bool false)], args := [d] }
  | _ => none }
def ShuffleBackWrongFalsely : Prop := shuffleBackRow.holds Try.pinned (OpenSpec.ofChange shuffleBackWrong)

/- THE SECOND FORM. 'bulk': how many values and letters a reading holds, each counted each time it is reached (what is shared counts as often as it is met; a slice's spare places count too). A statement '..UptoSaid' is the law's where the arguments, and the package variables that the reading takes, are together of bulk at most 1048576: NARROWER than '..Said'. Prove '..Said' where nothing that the law and all that it calls make is longer than what came in: it says more and counts as full. Else prove '..UptoSaid'. A law counts once. -/
mutual
def uptoBulk {H : Type} : DataW H → Nat
  | .lit (.string bytes) => bytes.length + 1
  | .lit _ => 1
  | .nil => 1
  | .ptr d => uptoBulk d + 1
  | .slice elems spare => uptoBulkAll elems + uptoBulkAll spare + 1
  | .agg parts => uptoBulkAll parts + 1
  | .iface _ d => uptoBulk d + 1
  | .map entries => uptoBulkEntries entries + 1
  | .held _ => 1
def uptoBulkAll {H : Type} : List (DataW H) → Nat
  | [] => 0
  | d :: r => uptoBulk d + uptoBulkAll r
def uptoBulkEntries {H : Type} : List (Lit × DataW H) → Nat
  | [] => 0
  | x :: r => uptoBulkEntry x + uptoBulkEntries r
def uptoBulkEntry {H : Type} : Lit × DataW H → Nat
  | (.string bytes, d) => bytes.length + uptoBulk d + 1
  | (_, d) => uptoBulk d + 1
 end
def uptoSmall : (H : Type) → List (DataW H) → Bool := fun _ ds => decide (uptoBulkAll ds ≤ 1048576)
def OpenSpec.upto (s : _root_.Go.ChangeSpec) : _root_.Go.OpenSpec := { _root_.Go.OpenSpec.ofChange s with cond := some uptoSmall }

/-- 'hoistwaylaw54.ParetoLayers', WHERE WHAT IT READS IS OF BULK AT MOST 1048576: true; the input reads as it did. -/
def paretoLayersUptoRow : OpenClaim := { program := "ytjokekohmncmkad", sum := "a7c5e25faa5904daaf8f91a59ea036793a5582e8605114b81e6db4454185e87d", func := "hoistway/hoistwaylaw54.ParetoLayers", spec := "paretoLayers", unfollowed := true, recurses := true, apart := false, narrowed := true }
def ParetoLayersUptoSaid : Prop := paretoLayersUptoRow.holds Try.pinned (OpenSpec.upto paretoLayersSpec)

/-- 'hoistwaylaw55.BarsLong', WHERE WHAT IT READS IS OF BULK AT MOST 1048576: true; the input reads as it did. -/
def barsLongUptoRow : OpenClaim := { program := "ytjokekohmncmkad", sum := "a7c5e25faa5904daaf8f91a59ea036793a5582e8605114b81e6db4454185e87d", func := "hoistway/hoistwaylaw55.BarsLong", spec := "barsLong", named := ["math/bits.divideError", "math/bits.overflowError"], apart := false, narrowed := true }
def BarsLongUptoSaid : Prop := barsLongUptoRow.holds Try.pinned (OpenSpec.upto barsLongSpec)

/-- 'hoistwaylaw56.ProbParts', WHERE WHAT IT READS IS OF BULK AT MOST 1048576: true; the input reads as it did. -/
def probPartsUptoRow : OpenClaim := { program := "ytjokekohmncmkad", sum := "a7c5e25faa5904daaf8f91a59ea036793a5582e8605114b81e6db4454185e87d", func := "hoistway/hoistwaylaw56.ProbParts", spec := "probParts", apart := false, narrowed := true }
def ProbPartsUptoSaid : Prop := probPartsUptoRow.holds Try.pinned (OpenSpec.upto probPartsSpec)

/-- 'hoistwaylaw56.ProbRounds', WHERE WHAT IT READS IS OF BULK AT MOST 1048576: true; the input reads as it did. -/
def probRoundsUptoRow : OpenClaim := { program := "ytjokekohmncmkad", sum := "a7c5e25faa5904daaf8f91a59ea036793a5582e8605114b81e6db4454185e87d", func := "hoistway/hoistwaylaw56.ProbRounds", spec := "probRounds", apart := false, narrowed := true }
def ProbRoundsUptoSaid : Prop := probRoundsUptoRow.holds Try.pinned (OpenSpec.upto probRoundsSpec)

/-- 'hoistwaylaw56.ProbBounds', WHERE WHAT IT READS IS OF BULK AT MOST 1048576: true; the input reads as it did. -/
def probBoundsUptoRow : OpenClaim := { program := "ytjokekohmncmkad", sum := "a7c5e25faa5904daaf8f91a59ea036793a5582e8605114b81e6db4454185e87d", func := "hoistway/hoistwaylaw56.ProbBounds", spec := "probBounds", apart := false, narrowed := true }
def ProbBoundsUptoSaid : Prop := probBoundsUptoRow.holds Try.pinned (OpenSpec.upto probBoundsSpec)

/-- 'hoistwaylaw68.RotaPlays', WHERE WHAT IT READS IS OF BULK AT MOST 1048576: true; the input reads as it did. -/
def rotaPlaysUptoRow : OpenClaim := { program := "ytjokekohmncmkad", sum := "a7c5e25faa5904daaf8f91a59ea036793a5582e8605114b81e6db4454185e87d", func := "hoistway/hoistwaylaw68.RotaPlays", spec := "rotaPlays", unfollowed := true, recurses := true, apart := false, narrowed := true }
def RotaPlaysUptoSaid : Prop := rotaPlaysUptoRow.holds Try.pinned (OpenSpec.upto rotaPlaysSpec)

/-- 'hoistwaylaw69.ShuffleOrders', WHERE WHAT IT READS IS OF BULK AT MOST 1048576: true; the input reads as it did. -/
def shuffleOrdersUptoRow : OpenClaim := { program := "ytjokekohmncmkad", sum := "a7c5e25faa5904daaf8f91a59ea036793a5582e8605114b81e6db4454185e87d", func := "hoistway/hoistwaylaw69.ShuffleOrders", spec := "shuffleOrders", apart := false, narrowed := true }
def ShuffleOrdersUptoSaid : Prop := shuffleOrdersUptoRow.holds Try.pinned (OpenSpec.upto shuffleOrdersSpec)

/-- 'hoistwaylaw69.ShuffleSome', WHERE WHAT IT READS IS OF BULK AT MOST 1048576: true; the input reads as it did. -/
def shuffleSomeUptoRow : OpenClaim := { program := "ytjokekohmncmkad", sum := "a7c5e25faa5904daaf8f91a59ea036793a5582e8605114b81e6db4454185e87d", func := "hoistway/hoistwaylaw69.ShuffleSome", spec := "shuffleSome", apart := false, narrowed := true }
def ShuffleSomeUptoSaid : Prop := shuffleSomeUptoRow.holds Try.pinned (OpenSpec.upto shuffleSomeSpec)

/-- 'hoistwaylaw69.ShuffleBack', WHERE WHAT IT READS IS OF BULK AT MOST 1048576: true; the input reads as it did. -/
def shuffleBackUptoRow : OpenClaim := { program := "ytjokekohmncmkad", sum := "a7c5e25faa5904daaf8f91a59ea036793a5582e8605114b81e6db4454185e87d", func := "hoistway/hoistwaylaw69.ShuffleBack", spec := "shuffleBack", apart := false, narrowed := true }
def ShuffleBackUptoSaid : Prop := shuffleBackUptoRow.holds Try.pinned (OpenSpec.upto shuffleBackSpec)

end Rows
end Go.Proofs.Ytjokekohmncmkad
