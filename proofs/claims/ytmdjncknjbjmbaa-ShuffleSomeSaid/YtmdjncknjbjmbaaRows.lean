/-
  No cell of these rows narrows 'for every input' (looked for: loops, veiled, ifaces, maps, wideKeys, modest, calm, conditions, laid).
  DERIVED. THE GIVEN ROWS OF THIS SEAT. 12 by the template 'for every input the law returns true; each argument reads behind the call as it read before'; 0 by the template 'total and deterministic' (their statements: YtmdjncknjbjmbaaTotals.lean).
  GIVEN WITH THE SEED: the statements are not yours to turn. If you find one false, say at which input.
  Laid BY PROGRAM, IN A SANDBOX (cutbox-rows.mjs): the forced cells as the released guide's own fill.sh prints them over the translation a53dc889abda33d3… (all of the seat's roots in one cut). By AI agents, Wed Nov 11 2026. No macro, syntax, notation, axiom, sorry.
-/
import Derived.Test.YtmdjncknjbjmbaaChecked
import GoSem.Claim
import GoSem.ClaimJoined
import GoSem.ClaimMapViews
import Derived.JoinedTies
import Derived.KernelRfl
namespace Go.Proofs.Ytmdjncknjbjmbaa
/- THE CELL 'sum', in the pinned program and in every row, IS THE sha256 OF THE DUMP (.gsa) THAT YtmdjncknjbjmbaaProg.lean LOADS. Nothing in Lean hashes anything: it is a label: what it is worth is what the hold of that sum in a sandbox is worth. -/
noncomputable def Try.pinned : Pinned := { name := "ytmdjncknjbjmbaa", sum := "a53dc889abda33d3f4e0365c203ee42d1527f12a215632def8b43449c39b0f31", checked := Try.checked }
namespace Rows
def none {H : Type} : Left H := { results := [], args := [] }

/-- 'hoistwaylaw20.VetBounds': WHATEVER THE INPUT: true; the input reads as it did. -/
def vetBoundsSpec : ChangeSpec := { name := "vetBounds", fn := fun _ => fun
  | [d1, d2] => { results := [.lit (.bool true)], args := [d1, d2] }
  | _ => none }
def vetBoundsRow : OpenClaim := { program := "ytmdjncknjbjmbaa", sum := "a53dc889abda33d3f4e0365c203ee42d1527f12a215632def8b43449c39b0f31", func := "hoistway/hoistwaylaw20.VetBounds", spec := "vetBounds", plainKeys := false, apart := false }
def VetBoundsSaid : Prop := vetBoundsRow.holds Try.pinned (OpenSpec.ofChange vetBoundsSpec)

/-- ITS FALSE NEIGHBOUR: 'it returns false'. Refute it at one input. -/
def vetBoundsWrong : ChangeSpec := { name := "vetBounds", fn := fun _ => fun
  | [d1, d2] => { results := [.lit (.bool false)], args := [d1, d2] }
  | _ => none }
def VetBoundsWrongFalsely : Prop := vetBoundsRow.holds Try.pinned (OpenSpec.ofChange vetBoundsWrong)

/-- 'hoistwaylaw20.VetChecks': WHATEVER THE INPUT: true; the input reads as it did. -/
def vetChecksSpec : ChangeSpec := { name := "vetChecks", fn := fun _ => fun
  | [d1, d2] => { results := [.lit (.bool true)], args := [d1, d2] }
  | _ => none }
def vetChecksRow : OpenClaim := { program := "ytmdjncknjbjmbaa", sum := "a53dc889abda33d3f4e0365c203ee42d1527f12a215632def8b43449c39b0f31", func := "hoistway/hoistwaylaw20.VetChecks", spec := "vetChecks", plainKeys := false, apart := false }
def VetChecksSaid : Prop := vetChecksRow.holds Try.pinned (OpenSpec.ofChange vetChecksSpec)

/-- ITS FALSE NEIGHBOUR: 'it returns false'. Refute it at one input. -/
def vetChecksWrong : ChangeSpec := { name := "vetChecks", fn := fun _ => fun
  | [d1, d2] => { results := [.lit (.bool false)], args := [d1, d2] }
  | _ => none }
def VetChecksWrongFalsely : Prop := vetChecksRow.holds Try.pinned (OpenSpec.ofChange vetChecksWrong)

/-- 'hoistwaylaw63.PulseCounts': WHATEVER THE INPUT: true; the input reads as it did. -/
def pulseCountsSpec : ChangeSpec := { name := "pulseCounts", fn := fun _ => fun
  | [d1, d2, d3] => { results := [.lit (.bool true)], args := [d1, d2, d3] }
  | _ => none }
def pulseCountsRow : OpenClaim := { program := "ytmdjncknjbjmbaa", sum := "a53dc889abda33d3f4e0365c203ee42d1527f12a215632def8b43449c39b0f31", func := "hoistway/hoistwaylaw63.PulseCounts", spec := "pulseCounts", plainKeys := false, apart := false }
def PulseCountsSaid : Prop := pulseCountsRow.holds Try.pinned (OpenSpec.ofChange pulseCountsSpec)

/-- ITS FALSE NEIGHBOUR: 'it returns false'. Refute it at one input. -/
def pulseCountsWrong : ChangeSpec := { name := "pulseCounts", fn := fun _ => fun
  | [d1, d2, d3] => { results := [.lit (.bool false)], args := [d1, d2, d3] }
  | _ => none }
def PulseCountsWrongFalsely : Prop := pulseCountsRow.holds Try.pinned (OpenSpec.ofChange pulseCountsWrong)

/-- 'hoistwaylaw63.PulsePeaks': WHATEVER THE INPUT: true; the input reads as it did. -/
def pulsePeaksSpec : ChangeSpec := { name := "pulsePeaks", fn := fun _ => fun
  | [d1, d2] => { results := [.lit (.bool true)], args := [d1, d2] }
  | _ => none }
def pulsePeaksRow : OpenClaim := { program := "ytmdjncknjbjmbaa", sum := "a53dc889abda33d3f4e0365c203ee42d1527f12a215632def8b43449c39b0f31", func := "hoistway/hoistwaylaw63.PulsePeaks", spec := "pulsePeaks", plainKeys := false, apart := false }
def PulsePeaksSaid : Prop := pulsePeaksRow.holds Try.pinned (OpenSpec.ofChange pulsePeaksSpec)

/-- ITS FALSE NEIGHBOUR: 'it returns false'. Refute it at one input. -/
def pulsePeaksWrong : ChangeSpec := { name := "pulsePeaks", fn := fun _ => fun
  | [d1, d2] => { results := [.lit (.bool false)], args := [d1, d2] }
  | _ => none }
def PulsePeaksWrongFalsely : Prop := pulsePeaksRow.holds Try.pinned (OpenSpec.ofChange pulsePeaksWrong)

/-- 'hoistwaylaw63.PulseQueues': WHATEVER THE INPUT: true; the input reads as it did. -/
def pulseQueuesSpec : ChangeSpec := { name := "pulseQueues", fn := fun _ => fun
  | [d1, d2] => { results := [.lit (.bool true)], args := [d1, d2] }
  | _ => none }
def pulseQueuesRow : OpenClaim := { program := "ytmdjncknjbjmbaa", sum := "a53dc889abda33d3f4e0365c203ee42d1527f12a215632def8b43449c39b0f31", func := "hoistway/hoistwaylaw63.PulseQueues", spec := "pulseQueues", plainKeys := false, apart := false }
def PulseQueuesSaid : Prop := pulseQueuesRow.holds Try.pinned (OpenSpec.ofChange pulseQueuesSpec)

/-- ITS FALSE NEIGHBOUR: 'it returns false'. Refute it at one input. -/
def pulseQueuesWrong : ChangeSpec := { name := "pulseQueues", fn := fun _ => fun
  | [d1, d2] => { results := [.lit (.bool false)], args := [d1, d2] }
  | _ => none }
def PulseQueuesWrongFalsely : Prop := pulseQueuesRow.holds Try.pinned (OpenSpec.ofChange pulseQueuesWrong)

/-- 'hoistwaylaw69.ShuffleBack': WHATEVER THE INPUT: true; the input reads as it did. -/
def shuffleBackSpec : ChangeSpec := { name := "shuffleBack", fn := fun _ => fun
  | [d] => { results := [.lit (.bool true)], args := [d] }
  | _ => none }
def shuffleBackRow : OpenClaim := { program := "ytmdjncknjbjmbaa", sum := "a53dc889abda33d3f4e0365c203ee42d1527f12a215632def8b43449c39b0f31", func := "hoistway/hoistwaylaw69.ShuffleBack", spec := "shuffleBack", plainKeys := false, apart := false }
def ShuffleBackSaid : Prop := shuffleBackRow.holds Try.pinned (OpenSpec.ofChange shuffleBackSpec)

/-- ITS FALSE NEIGHBOUR: 'it returns false'. Refute it at one input. -/
def shuffleBackWrong : ChangeSpec := { name := "shuffleBack", fn := fun _ => fun
  | [d] => { results := [.lit (.bool false)], args := [d] }
  | _ => none }
def ShuffleBackWrongFalsely : Prop := shuffleBackRow.holds Try.pinned (OpenSpec.ofChange shuffleBackWrong)

/-- 'hoistwaylaw69.ShuffleSome': WHATEVER THE INPUT: true; the input reads as it did. -/
def shuffleSomeSpec : ChangeSpec := { name := "shuffleSome", fn := fun _ => fun
  | [d1, d2, d3] => { results := [.lit (.bool true)], args := [d1, d2, d3] }
  | _ => none }
def shuffleSomeRow : OpenClaim := { program := "ytmdjncknjbjmbaa", sum := "a53dc889abda33d3f4e0365c203ee42d1527f12a215632def8b43449c39b0f31", func := "hoistway/hoistwaylaw69.ShuffleSome", spec := "shuffleSome", plainKeys := false, apart := false }
def ShuffleSomeSaid : Prop := shuffleSomeRow.holds Try.pinned (OpenSpec.ofChange shuffleSomeSpec)

/-- ITS FALSE NEIGHBOUR: 'it returns false'. Refute it at one input. -/
def shuffleSomeWrong : ChangeSpec := { name := "shuffleSome", fn := fun _ => fun
  | [d1, d2, d3] => { results := [.lit (.bool false)], args := [d1, d2, d3] }
  | _ => none }
def ShuffleSomeWrongFalsely : Prop := shuffleSomeRow.holds Try.pinned (OpenSpec.ofChange shuffleSomeWrong)

/-- 'hoistwaylaw69.ShuffleOrders': WHATEVER THE INPUT: true; the input reads as it did. -/
def shuffleOrdersSpec : ChangeSpec := { name := "shuffleOrders", fn := fun _ => fun
  | [d1, d2, d3] => { results := [.lit (.bool true)], args := [d1, d2, d3] }
  | _ => none }
def shuffleOrdersRow : OpenClaim := { program := "ytmdjncknjbjmbaa", sum := "a53dc889abda33d3f4e0365c203ee42d1527f12a215632def8b43449c39b0f31", func := "hoistway/hoistwaylaw69.ShuffleOrders", spec := "shuffleOrders", plainKeys := false, apart := false }
def ShuffleOrdersSaid : Prop := shuffleOrdersRow.holds Try.pinned (OpenSpec.ofChange shuffleOrdersSpec)

/-- ITS FALSE NEIGHBOUR: 'it returns false'. Refute it at one input. -/
def shuffleOrdersWrong : ChangeSpec := { name := "shuffleOrders", fn := fun _ => fun
  | [d1, d2, d3] => { results := [.lit (.bool false)], args := [d1, d2, d3] }
  | _ => none }
def ShuffleOrdersWrongFalsely : Prop := shuffleOrdersRow.holds Try.pinned (OpenSpec.ofChange shuffleOrdersWrong)

/-- 'hoistwaylaw04.PackReads': WHATEVER THE INPUT: true; the input reads as it did. -/
def packReadsSpec : ChangeSpec := { name := "packReads", fn := fun _ => fun
  | [d1, d2, d3] => { results := [.lit (.bool true)], args := [d1, d2, d3] }
  | _ => none }
def packReadsRow : OpenClaim := { program := "ytmdjncknjbjmbaa", sum := "a53dc889abda33d3f4e0365c203ee42d1527f12a215632def8b43449c39b0f31", func := "hoistway/hoistwaylaw04.PackReads", spec := "packReads", recurses := true, plainKeys := false, apart := false }
def PackReadsSaid : Prop := packReadsRow.holds Try.pinned (OpenSpec.ofChange packReadsSpec)

/-- ITS FALSE NEIGHBOUR: 'it returns false'. Refute it at one input. -/
def packReadsWrong : ChangeSpec := { name := "packReads", fn := fun _ => fun
  | [d1, d2, d3] => { results := [.lit (.bool false)], args := [d1, d2, d3] }
  | _ => none }
def PackReadsWrongFalsely : Prop := packReadsRow.holds Try.pinned (OpenSpec.ofChange packReadsWrong)

/-- 'hoistwaylaw04.PackBack': WHATEVER THE INPUT: true; the input reads as it did. -/
def packBackSpec : ChangeSpec := { name := "packBack", fn := fun _ => fun
  | [d1, d2] => { results := [.lit (.bool true)], args := [d1, d2] }
  | _ => none }
def packBackRow : OpenClaim := { program := "ytmdjncknjbjmbaa", sum := "a53dc889abda33d3f4e0365c203ee42d1527f12a215632def8b43449c39b0f31", func := "hoistway/hoistwaylaw04.PackBack", spec := "packBack", plainKeys := false, apart := false }
def PackBackSaid : Prop := packBackRow.holds Try.pinned (OpenSpec.ofChange packBackSpec)

/-- ITS FALSE NEIGHBOUR: 'it returns false'. Refute it at one input. -/
def packBackWrong : ChangeSpec := { name := "packBack", fn := fun _ => fun
  | [d1, d2] => { results := [.lit (.bool false)], args := [d1, d2] }
  | _ => none }
def PackBackWrongFalsely : Prop := packBackRow.holds Try.pinned (OpenSpec.ofChange packBackWrong)

/-- 'hoistwaylaw60.ZoneWeighs': WHATEVER THE INPUT: true; the input reads as it did. -/
def zoneWeighsSpec : ChangeSpec := { name := "zoneWeighs", fn := fun _ => fun
  | [d1, d2, d3] => { results := [.lit (.bool true)], args := [d1, d2, d3] }
  | _ => none }
def zoneWeighsRow : OpenClaim := { program := "ytmdjncknjbjmbaa", sum := "a53dc889abda33d3f4e0365c203ee42d1527f12a215632def8b43449c39b0f31", func := "hoistway/hoistwaylaw60.ZoneWeighs", spec := "zoneWeighs", unfollowed := true, recurses := true, plainKeys := false, apart := false }
def ZoneWeighsSaid : Prop := zoneWeighsRow.holds Try.pinned (OpenSpec.ofChange zoneWeighsSpec)

/-- ITS FALSE NEIGHBOUR: 'it returns false'. Refute it at one input. -/
def zoneWeighsWrong : ChangeSpec := { name := "zoneWeighs", fn := fun _ => fun
  | [d1, d2, d3] => { results := [.lit (.bool false)], args := [d1, d2, d3] }
  | _ => none }
def ZoneWeighsWrongFalsely : Prop := zoneWeighsRow.holds Try.pinned (OpenSpec.ofChange zoneWeighsWrong)

/-- 'hoistwaylaw58.ObserveKinds': WHATEVER THE INPUT: true; the input reads as it did. -/
def observeKindsSpec : ChangeSpec := { name := "observeKinds", fn := fun _ => fun
  | [d] => { results := [.lit (.bool true)], args := [d] }
  | _ => none }
def observeKindsRow : OpenClaim := { program := "ytmdjncknjbjmbaa", sum := "a53dc889abda33d3f4e0365c203ee42d1527f12a215632def8b43449c39b0f31", func := "hoistway/hoistwaylaw58.ObserveKinds", spec := "observeKinds", plainKeys := false, apart := false }
def ObserveKindsSaid : Prop := observeKindsRow.holds Try.pinned (OpenSpec.ofChange observeKindsSpec)

/-- ITS FALSE NEIGHBOUR: 'it returns false'. Refute it at one input. -/
def observeKindsWrong : ChangeSpec := { name := "observeKinds", fn := fun _ => fun
  | [d] => { results := [.lit (.bool false)], args := [d] }
  | _ => none }
def ObserveKindsWrongFalsely : Prop := observeKindsRow.holds Try.pinned (OpenSpec.ofChange observeKindsWrong)

/- THE SECOND FORM. 'bulk': how many values and letters a reading holds, each counted each time it is reached (what is shared counts as often as it is met; a slice's spare places count too). A statement '..UptoSaid' is the law's where the arguments, and the package variables that the reading takes, are together of bulk at most 1048576: NARROWER than '..Said'. Prove '..Said' where nothing that the law and all that it calls make is longer than what came in: it says more and counts as full. Else prove '..UptoSaid'. A law counts once. -/
mutual
def uptoBulk {H : Type} : DataW H → Nat
  | .lit (.string bytes) => bytes.length + 1
  | .lit _ => 1
  | .nil => 1
  | .ptr d => uptoBulk d + 1
  | .slice elems spare => uptoBulkAll elems + uptoBulkAll spare + 1
  | .agg parts => uptoBulkAll parts + 1
  | .iface _ d => uptoBulk d + 1
  | .map entries => uptoBulkEntries entries + 1
  | .held _ => 1
def uptoBulkAll {H : Type} : List (DataW H) → Nat
  | [] => 0
  | d :: r => uptoBulk d + uptoBulkAll r
def uptoBulkEntries {H : Type} : List (Lit × DataW H) → Nat
  | [] => 0
  | x :: r => uptoBulkEntry x + uptoBulkEntries r
def uptoBulkEntry {H : Type} : Lit × DataW H → Nat
  | (.string bytes, d) => bytes.length + uptoBulk d + 1
  | (_, d) => uptoBulk d + 1
 end
def uptoSmall : (H : Type) → List (DataW H) → Bool := fun _ ds => decide (uptoBulkAll ds ≤ 1048576)
def OpenSpec.upto (s : _root_.Go.ChangeSpec) : _root_.Go.OpenSpec := { _root_.Go.OpenSpec.ofChange s with cond := some uptoSmall }

/-- 'hoistwaylaw20.VetBounds', WHERE WHAT IT READS IS OF BULK AT MOST 1048576: true; the input reads as it did. -/
def vetBoundsUptoRow : OpenClaim := { program := "ytmdjncknjbjmbaa", sum := "a53dc889abda33d3f4e0365c203ee42d1527f12a215632def8b43449c39b0f31", func := "hoistway/hoistwaylaw20.VetBounds", spec := "vetBounds", plainKeys := false, apart := false, narrowed := true }
def VetBoundsUptoSaid : Prop := vetBoundsUptoRow.holds Try.pinned (OpenSpec.upto vetBoundsSpec)

/-- 'hoistwaylaw20.VetChecks', WHERE WHAT IT READS IS OF BULK AT MOST 1048576: true; the input reads as it did. -/
def vetChecksUptoRow : OpenClaim := { program := "ytmdjncknjbjmbaa", sum := "a53dc889abda33d3f4e0365c203ee42d1527f12a215632def8b43449c39b0f31", func := "hoistway/hoistwaylaw20.VetChecks", spec := "vetChecks", plainKeys := false, apart := false, narrowed := true }
def VetChecksUptoSaid : Prop := vetChecksUptoRow.holds Try.pinned (OpenSpec.upto vetChecksSpec)

/-- 'hoistwaylaw63.PulseCounts', WHERE WHAT IT READS IS OF BULK AT MOST 1048576: true; the input reads as it did. -/
def pulseCountsUptoRow : OpenClaim := { program := "ytmdjncknjbjmbaa", sum := "a53dc889abda33d3f4e0365c203ee42d1527f12a215632def8b43449c39b0f31", func := "hoistway/hoistwaylaw63.PulseCounts", spec := "pulseCounts", plainKeys := false, apart := false, narrowed := true }
def PulseCountsUptoSaid : Prop := pulseCountsUptoRow.holds Try.pinned (OpenSpec.upto pulseCountsSpec)

/-- 'hoistwaylaw63.PulsePeaks', WHERE WHAT IT READS IS OF BULK AT MOST 1048576: true; the input reads as it did. -/
def pulsePeaksUptoRow : OpenClaim := { program := "ytmdjncknjbjmbaa", sum := "a53dc889abda33d3f4e0365c203ee42d1527f12a215632def8b43449c39b0f31", func := "hoistway/hoistwaylaw63.PulsePeaks", spec := "pulsePeaks", plainKeys := false, apart := false, narrowed := true }
def PulsePeaksUptoSaid : Prop := pulsePeaksUptoRow.holds Try.pinned (OpenSpec.upto pulsePeaksSpec)

/-- 'hoistwaylaw63.PulseQueues', WHERE WHAT IT READS IS OF BULK AT MOST 1048576: true; the input reads as it did. -/
def pulseQueuesUptoRow : OpenClaim := { program := "ytmdjncknjbjmbaa", sum := "a53dc889abda33d3f4e0365c203ee42d1527f12a215632def8b43449c39b0f31", func := "hoistway/hoistwaylaw63.PulseQueues", spec := "pulseQueues", plainKeys := false, apart := false, narrowed := true }
def PulseQueuesUptoSaid : Prop := pulseQueuesUptoRow.holds Try.pinned (OpenSpec.upto pulseQueuesSpec)

/-- 'hoistwaylaw69.ShuffleBack', WHERE WHAT IT READS IS OF BULK AT MOST 1048576: true; the input reads as it did. -/
def shuffleBackUptoRow : OpenClaim := { program := "ytmdjncknjbjmbaa", sum := "a53dc889abda33d3f4e0365c203ee42d1527f12a215632def8b43449c39b0f31", func := "hoistway/hoistwaylaw69.ShuffleBack", spec := "shuffleBack", plainKeys := false, apart := false, narrowed := true }
def ShuffleBackUptoSaid : Prop := shuffleBackUptoRow.holds Try.pinned (OpenSpec.upto shuffleBackSpec)

/-- 'hoistwaylaw69.ShuffleSome', WHERE WHAT IT READS IS OF BULK AT MOST 1048576: true; the input reads as it did. -/
def shuffleSomeUptoRow : OpenClaim := { program := "ytmdjncknjbjmbaa", sum := "a53dc889abda33d3f4e0365c203ee42d1527f12a215632def8b43449c39b0f31", func := "hoistway/hoistwaylaw69.ShuffleSome", spec := "shuffleSome", plainKeys := false, apart := false, narrowed := true }
def ShuffleSomeUptoSaid : Prop := shuffleSomeUptoRow.holds Try.pinned (OpenSpec.upto shuffleSomeSpec)

/-- 'hoistwaylaw69.ShuffleOrders', WHERE WHAT IT READS IS OF BULK AT MOST 1048576: true; the input reads as it did. -/
def shuffleOrdersUptoRow : OpenClaim := { program := "ytmdjncknjbjmbaa", sum := "a53dc889abda33d3f4e0365c203ee42d1527f12a215632def8b43449c39b0f31", func := "hoistway/hoistwaylaw69.ShuffleOrders", spec := "shuffleOrders", plainKeys := false, apart := false, narrowed := true }
def ShuffleOrdersUptoSaid : Prop := shuffleOrdersUptoRow.holds Try.pinned (OpenSpec.upto shuffleOrdersSpec)

/-- 'hoistwaylaw04.PackReads', WHERE WHAT IT READS IS OF BULK AT MOST 1048576: true; the input reads as it did. -/
def packReadsUptoRow : OpenClaim := { program := "ytmdjncknjbjmbaa", sum := "a53dc889abda33d3f4e0365c203ee42d1527f12a215632def8b43449c39b0f31", func := "hoistway/hoistwaylaw04.PackReads", spec := "packReads", recurses := true, plainKeys := false, apart := false, narrowed := true }
def PackReadsUptoSaid : Prop := packReadsUptoRow.holds Try.pinned (OpenSpec.upto packReadsSpec)

/-- 'hoistwaylaw04.PackBack', WHERE WHAT IT READS IS OF BULK AT MOST 1048576: true; the input reads as it did. -/
def packBackUptoRow : OpenClaim := { program := "ytmdjncknjbjmbaa", sum := "a53dc889abda33d3f4e0365c203ee42d1527f12a215632def8b43449c39b0f31", func := "hoistway/hoistwaylaw04.PackBack", spec := "packBack", plainKeys := false, apart := false, narrowed := true }
def PackBackUptoSaid : Prop := packBackUptoRow.holds Try.pinned (OpenSpec.upto packBackSpec)

/-- 'hoistwaylaw60.ZoneWeighs', WHERE WHAT IT READS IS OF BULK AT MOST 1048576: true; the input reads as it did. -/
def zoneWeighsUptoRow : OpenClaim := { program := "ytmdjncknjbjmbaa", sum := "a53dc889abda33d3f4e0365c203ee42d1527f12a215632def8b43449c39b0f31", func := "hoistway/hoistwaylaw60.ZoneWeighs", spec := "zoneWeighs", unfollowed := true, recurses := true, plainKeys := false, apart := false, narrowed := true }
def ZoneWeighsUptoSaid : Prop := zoneWeighsUptoRow.holds Try.pinned (OpenSpec.upto zoneWeighsSpec)

/-- 'hoistwaylaw58.ObserveKinds', WHERE WHAT IT READS IS OF BULK AT MOST 1048576: true; the input reads as it did. -/
def observeKindsUptoRow : OpenClaim := { program := "ytmdjncknjbjmbaa", sum := "a53dc889abda33d3f4e0365c203ee42d1527f12a215632def8b43449c39b0f31", func := "hoistway/hoistwaylaw58.ObserveKinds", spec := "observeKinds", plainKeys := false, apart := false, narrowed := true }
def ObserveKindsUptoSaid : Prop := observeKindsUptoRow.holds Try.pinned (OpenSpec.upto observeKindsSpec)

end Rows
end Go.Proofs.Ytmdjncknjbjmbaa
