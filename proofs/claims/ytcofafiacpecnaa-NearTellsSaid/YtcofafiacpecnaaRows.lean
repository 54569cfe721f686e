/-
  No cell of these rows narrows 'for every input' (looked for: loops, veiled, ifaces, maps, wideKeys, modest, calm, conditions, laid).
  DERIVED. THE GIVEN ROWS OF THIS SEAT. 12 by the template 'for every input the law returns true; each argument reads behind the call as it read before'; 0 by the template 'total and deterministic' (their statements: YtcofafiacpecnaaTotals.lean).
  GIVEN WITH THE SEED: the statements are not yours to turn. If you find one false, say at which input.
  Laid BY PROGRAM, IN A SANDBOX (cutbox-rows.mjs): the forced cells as the released guide's own fill.sh prints them over the translation 6d6b68eda77da6be… (all of the seat's roots in one cut). By AI agents, Wed Nov 11 2026. No macro, syntax, notation, axiom, sorry.
-/
import Derived.Test.YtcofafiacpecnaaChecked
import GoSem.Claim
import GoSem.ClaimJoined
import GoSem.ClaimMapViews
import Derived.JoinedTies
import Derived.KernelRfl
namespace Go.Proofs.Ytcofafiacpecnaa
/- THE CELL 'sum', in the pinned program and in every row, IS THE sha256 OF THE DUMP (.gsa) THAT YtcofafiacpecnaaProg.lean LOADS. Nothing in Lean hashes anything: it is a label: what it is worth is what the hold of that sum in a sandbox is worth. -/
noncomputable def Try.pinned : Pinned := { name := "ytcofafiacpecnaa", sum := "6d6b68eda77da6becdc6dd4b635acf1ddec6df646ec3360b0d093ac0f22fecd0", checked := Try.checked }
namespace Rows
def none {H : Type} : Left H := { results := [], args := [] }

/-- 'hoistwaylaw04.PackReads': WHATEVER THE INPUT: true; the input reads as it did. -/
def packReadsSpec : ChangeSpec := { name := "packReads", fn := fun _ => fun
  | [d1, d2, d3] => { results := [.lit (.bool true)], args := [d1, d2, d3] }
  | _ => none }
def packReadsRow : OpenClaim := { program := "ytcofafiacpecnaa", sum := "6d6b68eda77da6becdc6dd4b635acf1ddec6df646ec3360b0d093ac0f22fecd0", func := "hoistway/hoistwaylaw04.PackReads", spec := "packReads", recurses := true, apart := false }
def PackReadsSaid : Prop := packReadsRow.holds Try.pinned (OpenSpec.ofChange packReadsSpec)

/-- ITS FALSE NEIGHBOUR: 'it returns false'. Refute it at one input. -/
def packReadsWrong : ChangeSpec := { name := "packReads", fn := fun _ => fun
  | [d1, d2, d3] => { results := [.lit (.bool false)], args := [d1, d2, d3] }
  | _ => none }
def PackReadsWrongFalsely : Prop := packReadsRow.holds Try.pinned (OpenSpec.ofChange packReadsWrong)

/-- 'hoistwaylaw04.PackBack': WHATEVER THE INPUT: true; the input reads as it did. -/
def packBackSpec : ChangeSpec := { name := "packBack", fn := fun _ => fun
  | [d1, d2] => { results := [.lit (.bool true)], args := [d1, d2] }
  | _ => none }
def packBackRow : OpenClaim := { program := "ytcofafiacpecnaa", sum := "6d6b68eda77da6becdc6dd4b635acf1ddec6df646ec3360b0d093ac0f22fecd0", func := "hoistway/hoistwaylaw04.PackBack", spec := "packBack", apart := false }
def PackBackSaid : Prop := packBackRow.holds Try.pinned (OpenSpec.ofChange packBackSpec)

/-- ITS FALSE NEIGHBOUR: 'it returns false'. Refute it at one input. -/
def packBackWrong : ChangeSpec := { name := "packBack", fn := fun _ => fun
  | [d1, d2] => { results := [.lit (.bool false)], args := [d1, d2] }
  | _ => none }
def PackBackWrongFalsely : Prop := packBackRow.holds Try.pinned (OpenSpec.ofChange packBackWrong)

/-- 'hoistwaylaw32.NearLeast': WHATEVER THE INPUT: true; the input reads as it did. -/
def nearLeastSpec : ChangeSpec := { name := "nearLeast", fn := fun _ => fun
  | [d] => { results := [.lit (.bool true)], args := [d] }
  | _ => none }
def nearLeastRow : OpenClaim := { program := "ytcofafiacpecnaa", sum := "6d6b68eda77da6becdc6dd4b635acf1ddec6df646ec3360b0d093ac0f22fecd0", func := "hoistway/hoistwaylaw32.NearLeast", spec := "nearLeast", apart := false }
def NearLeastSaid : Prop := nearLeastRow.holds Try.pinned (OpenSpec.ofChange nearLeastSpec)

/-- ITS FALSE NEIGHBOUR: 'it returns false'. Refute it at one input. -/
def nearLeastWrong : ChangeSpec := { name := "nearLeast", fn := fun _ => fun
  | [d] => { results := [.lit (.bool false)], args := [d] }
  | _ => none }
def NearLeastWrongFalsely : Prop := nearLeastRow.holds Try.pinned (OpenSpec.ofChange nearLeastWrong)

/-- 'hoistwaylaw32.NearTells': WHATEVER THE INPUT: true; the input reads as it did. -/
def nearTellsSpec : ChangeSpec := { name := "nearTells", fn := fun _ => fun
  | [d1, d2, d3] => { results := [.lit (.bool true)], args := [d1, d2, d3] }
  | _ => none }
def nearTellsRow : OpenClaim := { program := "ytcofafiacpecnaa", sum := "6d6b68eda77da6becdc6dd4b635acf1ddec6df646ec3360b0d093ac0f22fecd0", func := "hoistway/hoistwaylaw32.NearTells", spec := "nearTells", apart := false }
def NearTellsSaid : Prop := nearTellsRow.holds Try.pinned (OpenSpec.ofChange nearTellsSpec)

/-- ITS FALSE NEIGHBOUR: 'it returns false'. Refute it at one input. -/
def nearTellsWrong : ChangeSpec := { name := "nearTells", fn := fun _ => fun
  | [d1, d2, d3] => { results := [.lit (.bool false)], args := [d1, d2, d3] }
  | _ => none }
def NearTellsWrongFalsely : Prop := nearTellsRow.holds Try.pinned (OpenSpec.ofChange nearTellsWrong)

/-- 'hoistwaylaw33.SectorShares': WHATEVER THE INPUT: true; the input reads as it did. -/
def sectorSharesSpec : ChangeSpec := { name := "sectorShares", fn := fun _ => fun
  | [d1, d2] => { results := [.lit (.bool true)], args := [d1, d2] }
  | _ => none }
def sectorSharesRow : OpenClaim := { program := "ytcofafiacpecnaa", sum := "6d6b68eda77da6becdc6dd4b635acf1ddec6df646ec3360b0d093ac0f22fecd0", func := "hoistway/hoistwaylaw33.SectorShares", spec := "sectorShares", apart := false }
def SectorSharesSaid : Prop := sectorSharesRow.holds Try.pinned (OpenSpec.ofChange sectorSharesSpec)

/-- ITS FALSE NEIGHBOUR: 'it returns false'. Refute it at one input. -/
def sectorSharesWrong : ChangeSpec := { name := "sectorShares", fn := fun _ => fun
  | [d1, d2] => { results := [.lit (.bool false)], args := [d1, d2] }
  | _ => none }
def SectorSharesWrongFalsely : Prop := sectorSharesRow.holds Try.pinned (OpenSpec.ofChange sectorSharesWrong)

/-- 'hoistwaylaw64.EnergySteps': WHATEVER THE INPUT: true; the input reads as it did. -/
def energyStepsSpec : ChangeSpec := { name := "energySteps", fn := fun _ => fun
  | [d1, d2, d3] => { results := [.lit (.bool true)], args := [d1, d2, d3] }
  | _ => none }
def energyStepsRow : OpenClaim := { program := "ytcofafiacpecnaa", sum := "6d6b68eda77da6becdc6dd4b635acf1ddec6df646ec3360b0d093ac0f22fecd0", func := "hoistway/hoistwaylaw64.EnergySteps", spec := "energySteps", apart := false }
def EnergyStepsSaid : Prop := energyStepsRow.holds Try.pinned (OpenSpec.ofChange energyStepsSpec)

/-- ITS FALSE NEIGHBOUR: 'it returns false'. Refute it at one input. -/
def energyStepsWrong : ChangeSpec := { name := "energySteps", fn := fun _ => fun
  | [d1, d2, d3] => { results := [.lit (.bool false)], args := [d1, d2, d3] }
  | _ => none }
def EnergyStepsWrongFalsely : Prop := energyStepsRow.holds Try.pinned (OpenSpec.ofChange energyStepsWrong)

/-- 'hoistwaylaw35.FigureTrips': WHATEVER THE INPUT: true; the input reads as it did. -/
def figureTripsSpec : ChangeSpec := { name := "figureTrips", fn := fun _ => fun
  | [d1, d2, d3] => { results := [.lit (.bool true)], args := [d1, d2, d3] }
  | _ => none }
def figureTripsRow : OpenClaim := { program := "ytcofafiacpecnaa", sum := "6d6b68eda77da6becdc6dd4b635acf1ddec6df646ec3360b0d093ac0f22fecd0", func := "hoistway/hoistwaylaw35.FigureTrips", spec := "figureTrips", apart := false }
def FigureTripsSaid : Prop := figureTripsRow.holds Try.pinned (OpenSpec.ofChange figureTripsSpec)

/-- ITS FALSE NEIGHBOUR: 'it returns false'. Refute it at one input. -/
def figureTripsWrong : ChangeSpec := { name := "figureTrips", fn := fun _ => fun
  | [d1, d2, d3] => { results := [.lit (.bool false)], args := [d1, d2, d3] }
  | _ => none }
def FigureTripsWrongFalsely : Prop := figureTripsRow.holds Try.pinned (OpenSpec.ofChange figureTripsWrong)

/-- 'hoistwaylaw69.ShuffleOrders': WHATEVER THE INPUT: true; the input reads as it did. -/
def shuffleOrdersSpec : ChangeSpec := { name := "shuffleOrders", fn := fun _ => fun
  | [d1, d2, d3] => { results := [.lit (.bool true)], args := [d1, d2, d3] }
  | _ => none }
def shuffleOrdersRow : OpenClaim := { program := "ytcofafiacpecnaa", sum := "6d6b68eda77da6becdc6dd4b635acf1ddec6df646ec3360b0d093ac0f22fecd0", func := "hoistway/hoistwaylaw69.ShuffleOrders", spec := "shuffleOrders", apart := false }
def ShuffleOrdersSaid : Prop := shuffleOrdersRow.holds Try.pinned (OpenSpec.ofChange shuffleOrdersSpec)

/-- ITS FALSE NEIGHBOUR: 'it returns false'. Refute it at one input. -/
def shuffleOrdersWrong : ChangeSpec := { name := "shuffleOrders", fn := fun _ => fun
  | [d1, d2, d3] => { results := [.lit (.bool false)], args := [d1, d2, d3] }
  | _ => none }
def ShuffleOrdersWrongFalsely : Prop := shuffleOrdersRow.holds Try.pinned (OpenSpec.ofChange shuffleOrdersWrong)

/-- 'hoistwaylaw15.RankPlaces': WHATEVER THE INPUT: true; the input reads as it did. -/
def rankPlacesSpec : ChangeSpec := { name := "rankPlaces", fn := fun _ => fun
  | [d1, d2] => { results := [.lit (.bool true)], args := [d1, d2] }
  | _ => none }
def rankPlacesRow : OpenClaim := { program := "ytcofafiacpecnaa", sum := "6d6b68eda77da6becdc6dd4b635acf1ddec6df646ec3360b0d093ac0f22fecd0", func := "hoistway/hoistwaylaw15.RankPlaces", spec := "rankPlaces", unfollowed := true, recurses := true, apart := false }
def RankPlacesSaid : Prop := rankPlacesRow.holds Try.pinned (OpenSpec.ofChange rankPlacesSpec)

/-- ITS FALSE NEIGHBOUR: 'it returns false'. Refute it at one input. -/
def rankPlacesWrong : ChangeSpec := { name := "rankPlaces", fn := fun _ => fun
  | [d1, d2] => { results := [.lit (.bool false)], args := [d1, d2] }
  | _ => none }
def RankPlacesWrongFalsely : Prop := rankPlacesRow.holds Try.pinned (OpenSpec.ofChange rankPlacesWrong)

/-- 'hoistwaylaw15.RankTells': WHATEVER THE INPUT: true; the input reads as it did. -/
def rankTellsSpec : ChangeSpec := { name := "rankTells", fn := fun _ => fun
  | [d1, d2, d3] => { results := [.lit (.bool true)], args := [d1, d2, d3] }
  | _ => none }
def rankTellsRow : OpenClaim := { program := "ytcofafiacpecnaa", sum := "6d6b68eda77da6becdc6dd4b635acf1ddec6df646ec3360b0d093ac0f22fecd0", func := "hoistway/hoistwaylaw15.RankTells", spec := "rankTells", unfollowed := true, recurses := true, apart := false }
def RankTellsSaid : Prop := rankTellsRow.holds Try.pinned (OpenSpec.ofChange rankTellsSpec)

/-- ITS FALSE NEIGHBOUR: 'it returns false'. Refute it at one input. -/
def rankTellsWrong : ChangeSpec := { name := "rankTells", fn := fun _ => fun
  | [d1, d2, d3] => { results := [.lit (.bool false)], args := [d1, d2, d3] }
  | _ => none }
def RankTellsWrongFalsely : Prop := rankTellsRow.holds Try.pinned (OpenSpec.ofChange rankTellsWrong)

/-- 'hoistwaylaw15.RankMany': WHATEVER THE INPUT: true; the input reads as it did. -/
def rankManySpec : ChangeSpec := { name := "rankMany", fn := fun _ => fun
  | [d1, d2] => { results := [.lit (.bool true)], args := [d1, d2] }
  | _ => none }
def rankManyRow : OpenClaim := { program := "ytcofafiacpecnaa", sum := "6d6b68eda77da6becdc6dd4b635acf1ddec6df646ec3360b0d093ac0f22fecd0", func := "hoistway/hoistwaylaw15.RankMany", spec := "rankMany", unfollowed := true, recurses := true, apart := false }
def RankManySaid : Prop := rankManyRow.holds Try.pinned (OpenSpec.ofChange rankManySpec)

/-- ITS FALSE NEIGHBOUR: 'it returns false'. Refute it at one input. -/
def rankManyWrong : ChangeSpec := { name := "rankMany", fn := fun _ => fun
  | [d1, d2] => { results := [.lit (.bool false)], args := [d1, d2] }
  | _ => none }
def RankManyWrongFalsely : Prop := rankManyRow.holds Try.pinned (OpenSpec.ofChange rankManyWrong)

/-- 'hoistwaylaw60.ZoneWeighs': WHATEVER THE INPUT: true; the input reads as it did. -/
def zoneWeighsSpec : ChangeSpec := { name := "zoneWeighs", fn := fun _ => fun
  | [d1, d2, d3] => { results := [.lit (.bool true)], args := [d1, d2, d3] }
  | _ => none }
def zoneWeighsRow : OpenClaim := { program := "ytcofafiacpecnaa", sum := "6d6b68eda77da6becdc6dd4b635acf1ddec6df646ec3360b0d093ac0f22fecd0", func := "hoistway/hoistwaylaw60.ZoneWeighs", spec := "zoneWeighs", unfollowed := true, recurses := true, apart := false }
def ZoneWeighsSaid : Prop := zoneWeighsRow.holds Try.pinned (OpenSpec.ofChange zoneWeighsSpec)

/-- ITS FALSE NEIGHBOUR: 'it returns false'. Refute it at one input. -/
def zoneWeighsWrong : ChangeSpec := { name := "zoneWeighs", fn := fun _ => fun
  | [d1, d2, d3] => { results := [.lit (.bool false)], args := [d1, d2, d3] }
  | _ => none }
def ZoneWeighsWrongFalsely : Prop := zoneWeighsRow.holds Try.pinned (OpenSpec.ofChange zoneWeighsWrong)

/- THE SECOND FORM. 'bulk': how many values and letters a reading holds, each counted each time it is reached (what is shared counts as often as it is met; a slice's spare places count too). A statement '..UptoSaid' is the law's where the arguments, and the package variables that the reading takes, are together of bulk at most 1048576: NARROWER than '..Said'. Prove '..Said' where nothing that the law and all that it calls make is longer than what came in: it says more and counts as full. Else prove '..UptoSaid'. A law counts once. -/
mutual
def uptoBulk {H : Type} : DataW H → Nat
  | .lit (.string bytes) => bytes.length + 1
  | .lit _ => 1
  | .nil => 1
  | .ptr d => uptoBulk d + 1
  | .slice elems spare => uptoBulkAll elems + uptoBulkAll spare + 1
  | .agg parts => uptoBulkAll parts + 1
  | .iface _ d => uptoBulk d + 1
  | .map entries => uptoBulkEntries entries + 1
  | .held _ => 1
def uptoBulkAll {H : Type} : List (DataW H) → Nat
  | [] => 0
  | d :: r => uptoBulk d + uptoBulkAll r
def uptoBulkEntries {H : Type} : List (Lit × DataW H) → Nat
  | [] => 0
  | x :: r => uptoBulkEntry x + uptoBulkEntries r
def uptoBulkEntry {H : Type} : Lit × DataW H → Nat
  | (.string bytes, d) => bytes.length + uptoBulk d + 1
  | (_, d) => uptoBulk d + 1
 end
def uptoSmall : (H : Type) → List (DataW H) → Bool := fun _ ds => decide (uptoBulkAll ds ≤ 1048576)
def OpenSpec.upto (s : _root_.Go.ChangeSpec) : _root_.Go.OpenSpec := { _root_.Go.OpenSpec.ofChange s with cond := some uptoSmall }

/-- 'hoistwaylaw04.PackReads', WHERE WHAT IT READS IS OF BULK AT MOST 1048576: true; the input reads as it did. -/
def packReadsUptoRow : OpenClaim := { program := "ytcofafiacpecnaa", sum := "6d6b68eda77da6becdc6dd4b635acf1ddec6df646ec3360b0d093ac0f22fecd0", func := "hoistway/hoistwaylaw04.PackReads", spec := "packReads", recurses := true, apart := false, narrowed := true }
def PackReadsUptoSaid : Prop := packReadsUptoRow.holds Try.pinned (OpenSpec.upto packReadsSpec)

/-- 'hoistwaylaw04.PackBack', WHERE WHAT IT READS IS OF BULK AT MOST 1048576: true; the input reads as it did. -/
def packBackUptoRow : OpenClaim := { program := "ytcofafiacpecnaa", sum := "6d6b68eda77da6becdc6dd4b635acf1ddec6df646ec3360b0d093ac0f22fecd0", func := "hoistway/hoistwaylaw04.PackBack", spec := "packBack", apart := false, narrowed := true }
def PackBackUptoSaid : Prop := packBackUptoRow.holds Try.pinned (OpenSpec.upto packBackSpec)

/-- 'hoistwaylaw32.NearLeast', WHERE WHAT IT READS IS OF BULK AT MOST 1048576: true; the input reads as it did. -/
def nearLeastUptoRow : OpenClaim := { program := "ytcofafiacpecnaa", sum := "6d6b68eda77da6becdc6dd4b635acf1ddec6df646ec3360b0d093ac0f22fecd0", func := "hoistway/hoistwaylaw32.NearLeast", spec := "nearLeast", apart := false, narrowed := true }
def NearLeastUptoSaid : Prop := nearLeastUptoRow.holds Try.pinned (OpenSpec.upto nearLeastSpec)

/-- 'hoistwaylaw32.NearTells', WHERE WHAT IT READS IS OF BULK AT MOST 1048576: true; the input reads as it did. -/
def nearTellsUptoRow : OpenClaim := { program := "ytcofafiacpecnaa", sum := "6d6b68eda77da6becdc6dd4b635acf1ddec6df646ec3360b0d093ac0f22fecd0", func := "hoistway/hoistwaylaw32.NearTells", spec := "nearTells", apart := false, narrowed := true }
def NearTellsUptoSaid : Prop := nearTellsUptoRow.holds Try.pinned (OpenSpec.upto nearTellsSpec)

/-- 'hoistwaylaw33.SectorShares', WHERE WHAT IT READS IS OF BULK AT MOST 1048576: true; the input reads as it did. -/
def sectorSharesUptoRow : OpenClaim := { program := "ytcofafiacpecnaa", sum := "6d6b68eda77da6becdc6dd4b635acf1ddec6df646ec3360b0d093ac0f22fecd0", func := "hoistway/hoistwaylaw33.SectorShares", spec := "sectorShares", apart := false, narrowed := true }
def SectorSharesUptoSaid : Prop := sectorSharesUptoRow.holds Try.pinned (OpenSpec.upto sectorSharesSpec)

/-- 'hoistwaylaw64.EnergySteps', WHERE WHAT IT READS IS OF BULK AT MOST 1048576: true; the input reads as it did. -/
def energyStepsUptoRow : OpenClaim := { program := "ytcofafiacpecnaa", sum := "6d6b68eda77da6becdc6dd4b635acf1ddec6df646ec3360b0d093ac0f22fecd0", func := "hoistway/hoistwaylaw64.EnergySteps", spec := "energySteps", apart := false, narrowed := true }
def EnergyStepsUptoSaid : Prop := energyStepsUptoRow.holds Try.pinned (OpenSpec.upto energyStepsSpec)

/-- 'hoistwaylaw35.FigureTrips', WHERE WHAT IT READS IS OF BULK AT MOST 1048576: true; the input reads as it did. -/
def figureTripsUptoRow : OpenClaim := { program := "ytcofafiacpecnaa", sum := "6d6b68eda77da6becdc6dd4b635acf1ddec6df646ec3360b0d093ac0f22fecd0", func := "hoistway/hoistwaylaw35.FigureTrips", spec := "figureTrips", apart := false, narrowed := true }
def FigureTripsUptoSaid : Prop := figureTripsUptoRow.holds Try.pinned (OpenSpec.upto figureTripsSpec)

/-- 'hoistwaylaw69.ShuffleOrders', WHERE WHAT IT READS IS OF BULK AT MOST 1048576: true; the input reads as it did. -/
def shuffleOrdersUptoRow : OpenClaim := { program := "ytcofafiacpecnaa", sum := "6d6b68eda77da6becdc6dd4b635acf1ddec6df646ec3360b0d093ac0f22fecd0", func := "hoistway/hoistwaylaw69.ShuffleOrders", spec := "shuffleOrders", apart := false, narrowed := true }
def ShuffleOrdersUptoSaid : Prop := shuffleOrdersUptoRow.holds Try.pinned (OpenSpec.upto shuffleOrdersSpec)

/-- 'hoistwaylaw15.RankPlaces', WHERE WHAT IT READS IS OF BULK AT MOST 1048576: true; the input reads as it did. -/
def rankPlacesUptoRow : OpenClaim := { program := "ytcofafiacpecnaa", sum := "6d6b68eda77da6becdc6dd4b635acf1ddec6df646ec3360b0d093ac0f22fecd0", func := "hoistway/hoistwaylaw15.RankPlaces", spec := "rankPlaces", unfollowed := true, recurses := true, apart := false, narrowed := true }
def RankPlacesUptoSaid : Prop := rankPlacesUptoRow.holds Try.pinned (OpenSpec.upto rankPlacesSpec)

/-- 'hoistwaylaw15.RankTells', WHERE WHAT IT READS IS OF BULK AT MOST 1048576: true; the input reads as it did. -/
def rankTellsUptoRow : OpenClaim := { program := "ytcofafiacpecnaa", sum := "6d6b68eda77da6becdc6dd4b635acf1ddec6df646ec3360b0d093ac0f22fecd0", func := "hoistway/hoistwaylaw15.RankTells", spec := "rankTells", unfollowed := true, recurses := true, apart := false, narrowed := true }
def RankTellsUptoSaid : Prop := rankTellsUptoRow.holds Try.pinned (OpenSpec.upto rankTellsSpec)

/-- 'hoistwaylaw15.RankMany', WHERE WHAT IT READS IS OF BULK AT MOST 1048576: true; the input reads as it did. -/
def rankManyUptoRow : OpenClaim := { program := "ytcofafiacpecnaa", sum := "6d6b68eda77da6becdc6dd4b635acf1ddec6df646ec3360b0d093ac0f22fecd0", func := "hoistway/hoistwaylaw15.RankMany", spec := "rankMany", unfollowed := true, recurses := true, apart := false, narrowed := true }
def RankManyUptoSaid : Prop := rankManyUptoRow.holds Try.pinned (OpenSpec.upto rankManySpec)

/-- 'hoistwaylaw60.ZoneWeighs', WHERE WHAT IT READS IS OF BULK AT MOST 1048576: true; the input reads as it did. -/
def zoneWeighsUptoRow : OpenClaim := { program := "ytcofafiacpecnaa", sum := "6d6b68eda77da6becdc6dd4b635acf1ddec6df646ec3360b0d093ac0f22fecd0", func := "hoistway/hoistwaylaw60.ZoneWeighs", spec := "zoneWeighs", unfollowed := true, recurses := true, apart := false, narrowed := true }
def ZoneWeighsUptoSaid : Prop := zoneWeighsUptoRow.holds Try.pinned (OpenSpec.upto zoneWeighsSpec)

end Rows
end Go.Proofs.Ytcofafiacpecnaa
