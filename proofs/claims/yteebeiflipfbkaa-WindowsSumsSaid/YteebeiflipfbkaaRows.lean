/-
  No cell of these rows narrows 'for every input' (looked for: loops, veiled, ifaces, maps, wideKeys, modest, calm, conditions, laid).
  DERIVED. THE GIVEN ROWS OF THIS SEAT. 11 by the template 'for every input the law returns true; each argument reads behind the call as it read before'; 0 by the template 'total and deterministic' (their statements: YteebeiflipfbkaaTotals.lean).
  GIVEN WITH THE SEED: the statements are not yours to turn. If you find one false, say at which input.
  Laid BY PROGRAM, IN A SANDBOX (cutbox-rows.mjs): the forced cells as the released guide's own fill.sh prints them over the translation 6869aa75bf4a8f5d… (all of the seat's roots in one cut). By AI agents, Wed Nov 11 2026. No macro, syntax, notation, axiom, sorry.
-/
import Derived.Test.YteebeiflipfbkaaChecked
import GoSem.Claim
import GoSem.ClaimJoined
import GoSem.ClaimMapViews
import Derived.JoinedTies
import Derived.KernelRfl
namespace Go.Proofs.Yteebeiflipfbkaa
/- THE CELL 'sum', in the pinned program and in every row, IS THE sha256 OF THE DUMP (.gsa) THAT YteebeiflipfbkaaProg.lean LOADS. Nothing in Lean hashes anything: it is a label: what it is worth is what the hold of that sum in a sandbox is worth. -/
noncomputable def Try.pinned : Pinned := { name := "yteebeiflipfbkaa", sum := "6869aa75bf4a8f5d0e9428efc2990ddbd57f0d826e2d68f883079e897009e450", checked := Try.checked }
namespace Rows
def none {H : Type} : Left H := { results := [], args := [] }

/-- 'hoistwaylaw38.DiffChanged': WHATEVER THE INPUT: true; the input reads as it did. -/
def diffChangedSpec : ChangeSpec := { name := "diffChanged", fn := fun _ => fun
  | [d1, d2] => { results := [.lit (.bool true)], args := [d1, d2] }
  | _ => none }
def diffChangedRow : OpenClaim := { program := "yteebeiflipfbkaa", sum := "6869aa75bf4a8f5d0e9428efc2990ddbd57f0d826e2d68f883079e897009e450", func := "hoistway/hoistwaylaw38.DiffChanged", spec := "diffChanged", unfollowed := true, recurses := true, plainKeys := false, apart := false }
def DiffChangedSaid : Prop := diffChangedRow.holds Try.pinned (OpenSpec.ofChange diffChangedSpec)

/-- ITS FALSE NEIGHBOUR: 'it returns false'. Refute it at one input. -/
def diffChangedWrong : ChangeSpec := { name := "diffChanged", fn := fun _ => fun
  | [d1, d2] => { results := [.lit (.bool false)], args := [d1, d2] }
  | _ => none }
def DiffChangedWrongFalsely : Prop := diffChangedRow.holds Try.pinned (OpenSpec.ofChange diffChangedWrong)

/-- 'hoistwaylaw62.PeopleTurns': WHATEVER THE INPUT: true; the input reads as it did. -/
def peopleTurnsSpec : ChangeSpec := { name := "peopleTurns", fn := fun _ => fun
  | [d1, d2, d3] => { results := [.lit (.bool true)], args := [d1, d2, d3] }
  | _ => none }
def peopleTurnsRow : OpenClaim := { program := "yteebeiflipfbkaa", sum := "6869aa75bf4a8f5d0e9428efc2990ddbd57f0d826e2d68f883079e897009e450", func := "hoistway/hoistwaylaw62.PeopleTurns", spec := "peopleTurns", unfollowed := true, recurses := true, plainKeys := false, apart := false }
def PeopleTurnsSaid : Prop := peopleTurnsRow.holds Try.pinned (OpenSpec.ofChange peopleTurnsSpec)

/-- ITS FALSE NEIGHBOUR: 'it returns false'. Refute it at one input. -/
def peopleTurnsWrong : ChangeSpec := { name := "peopleTurns", fn := fun _ => fun
  | [d1, d2, d3] => { results := [.lit (.bool false)], args := [d1, d2, d3] }
  | _ => none }
def PeopleTurnsWrongFalsely : Prop := peopleTurnsRow.holds Try.pinned (OpenSpec.ofChange peopleTurnsWrong)

/-- 'hoistwaylaw72.WindowsSums': WHATEVER THE INPUT: true; the input reads as it did. -/
def windowsSumsSpec : ChangeSpec := { name := "windowsSums", fn := fun _ => fun
  | [d1, d2, d3] => { results := [.lit (.bool true)], args := [d1, d2, d3] }
  | _ => none }
def windowsSumsRow : OpenClaim := { program := "yteebeiflipfbkaa", sum := "6869aa75bf4a8f5d0e9428efc2990ddbd57f0d826e2d68f883079e897009e450", func := "hoistway/hoistwaylaw72.WindowsSums", spec := "windowsSums", unfollowed := true, recurses := true, plainKeys := false, apart := false }
def WindowsSumsSaid : Prop := windowsSumsRow.holds Try.pinned (OpenSpec.ofChange windowsSumsSpec)

/-- ITS FALSE NEIGHBOUR: 'it returns false'. Refute it at one input. -/
def windowsSumsWrong : ChangeSpec := { name := "windowsSums", fn := fun _ => fun
  | [d1, d2, d3] => { results := [.lit (.bool false)], args := [d1, d2, d3] }
  | _ => none }
def WindowsSumsWrongFalsely : Prop := windowsSumsRow.holds Try.pinned (OpenSpec.ofChange windowsSumsWrong)

/-- 'hoistwaylaw58.ObserveKinds': WHATEVER THE INPUT: true; the input reads as it did. -/
def observeKindsSpec : ChangeSpec := { name := "observeKinds", fn := fun _ => fun
  | [d] => { results := [.lit (.bool true)], args := [d] }
  | _ => none }
def observeKindsRow : OpenClaim := { program := "yteebeiflipfbkaa", sum := "6869aa75bf4a8f5d0e9428efc2990ddbd57f0d826e2d68f883079e897009e450", func := "hoistway/hoistwaylaw58.ObserveKinds", spec := "observeKinds", plainKeys := false, apart := false }
def ObserveKindsSaid : Prop := observeKindsRow.holds Try.pinned (OpenSpec.ofChange observeKindsSpec)

/-- ITS FALSE NEIGHBOUR: 'it returns false'. Refute it at one input. -/
def observeKindsWrong : ChangeSpec := { name := "observeKinds", fn := fun _ => fun
  | [d] => { results := [.lit (.bool false)], args := [d] }
  | _ => none }
def ObserveKindsWrongFalsely : Prop := observeKindsRow.holds Try.pinned (OpenSpec.ofChange observeKindsWrong)

/-- 'hoistwaylaw60.ZoneWeighs': WHATEVER THE INPUT: true; the input reads as it did. -/
def zoneWeighsSpec : ChangeSpec := { name := "zoneWeighs", fn := fun _ => fun
  | [d1, d2, d3] => { results := [.lit (.bool true)], args := [d1, d2, d3] }
  | _ => none }
def zoneWeighsRow : OpenClaim := { program := "yteebeiflipfbkaa", sum := "6869aa75bf4a8f5d0e9428efc2990ddbd57f0d826e2d68f883079e897009e450", func := "hoistway/hoistwaylaw60.ZoneWeighs", spec := "zoneWeighs", unfollowed := true, recurses := true, plainKeys := false, apart := false }
def ZoneWeighsSaid : Prop := zoneWeighsRow.holds Try.pinned (OpenSpec.ofChange zoneWeighsSpec)

/-- ITS FALSE NEIGHBOUR: 'it returns false'. Refute it at one input. -/
def zoneWeighsWrong : ChangeSpec := { name := "zoneWeighs", fn := fun _ => fun
  | [d1, d2, d3] => { results := [.lit (.bool false)], args := [d1, d2, d3] }
  | _ => none }
def ZoneWeighsWrongFalsely : Prop := zoneWeighsRow.holds Try.pinned (OpenSpec.ofChange zoneWeighsWrong)

/-- 'hoistwaylaw69.ShuffleOrders': WHATEVER THE INPUT: true; the input reads as it did. -/
def shuffleOrdersSpec : ChangeSpec := { name := "shuffleOrders", fn := fun _ => fun
  | [d1, d2, d3] => { results := [.lit (.bool true)], args := [d1, d2, d3] }
  | _ => none }
def shuffleOrdersRow : OpenClaim := { program := "yteebeiflipfbkaa", sum := "6869aa75bf4a8f5d0e9428efc2990ddbd57f0d826e2d68f883079e897009e450", func := "hoistway/hoistwaylaw69.ShuffleOrders", spec := "shuffleOrders", plainKeys := false, apart := false }
def ShuffleOrdersSaid : Prop := shuffleOrdersRow.holds Try.pinned (OpenSpec.ofChange shuffleOrdersSpec)

/-- ITS FALSE NEIGHBOUR: 'it returns false'. Refute it at one input. -/
def shuffleOrdersWrong : ChangeSpec := { name := "shuffleOrders", fn := fun _ => fun
  | [d1, d2, d3] => { results := [.lit (.bool false)], args := [d1, d2, d3] }
  | _ => none }
def ShuffleOrdersWrongFalsely : Prop := shuffleOrdersRow.holds Try.pinned (OpenSpec.ofChange shuffleOrdersWrong)

/-- 'hoistwaylaw38.DiffLogs': WHATEVER THE INPUT: true; the input reads as it did. -/
def diffLogsSpec : ChangeSpec := { name := "diffLogs", fn := fun _ => fun
  | [d1, d2] => { results := [.lit (.bool true)], args := [d1, d2] }
  | _ => none }
def diffLogsRow : OpenClaim := { program := "yteebeiflipfbkaa", sum := "6869aa75bf4a8f5d0e9428efc2990ddbd57f0d826e2d68f883079e897009e450", func := "hoistway/hoistwaylaw38.DiffLogs", spec := "diffLogs", unfollowed := true, recurses := true, plainKeys := false, apart := false }
def DiffLogsSaid : Prop := diffLogsRow.holds Try.pinned (OpenSpec.ofChange diffLogsSpec)

/-- ITS FALSE NEIGHBOUR: 'it returns false'. Refute it at one input. -/
def diffLogsWrong : ChangeSpec := { name := "diffLogs", fn := fun _ => fun
  | [d1, d2] => { results := [.lit (.bool false)], args := [d1, d2] }
  | _ => none }
def DiffLogsWrongFalsely : Prop := diffLogsRow.holds Try.pinned (OpenSpec.ofChange diffLogsWrong)

/-- 'hoistwaylaw04.PackBack': WHATEVER THE INPUT: true; the input reads as it did. -/
def packBackSpec : ChangeSpec := { name := "packBack", fn := fun _ => fun
  | [d1, d2] => { results := [.lit (.bool true)], args := [d1, d2] }
  | _ => none }
def packBackRow : OpenClaim := { program := "yteebeiflipfbkaa", sum := "6869aa75bf4a8f5d0e9428efc2990ddbd57f0d826e2d68f883079e897009e450", func := "hoistway/hoistwaylaw04.PackBack", spec := "packBack", plainKeys := false, apart := false }
def PackBackSaid : Prop := packBackRow.holds Try.pinned (OpenSpec.ofChange packBackSpec)

/-- ITS FALSE NEIGHBOUR: 'it returns false'. Refute it at one input. -/
def packBackWrong : ChangeSpec := { name := "packBack", fn := fun _ => fun
  | [d1, d2] => { results := [.lit (.bool false)], args := [d1, d2] }
  | _ => none }
def PackBackWrongFalsely : Prop := packBackRow.holds Try.pinned (OpenSpec.ofChange packBackWrong)

/-- 'hoistwaylaw72.WindowsRows': WHATEVER THE INPUT: true; the input reads as it did. -/
def windowsRowsSpec : ChangeSpec := { name := "windowsRows", fn := fun _ => fun
  | [d1, d2, d3] => { results := [.lit (.bool true)], args := [d1, d2, d3] }
  | _ => none }
def windowsRowsRow : OpenClaim := { program := "yteebeiflipfbkaa", sum := "6869aa75bf4a8f5d0e9428efc2990ddbd57f0d826e2d68f883079e897009e450", func := "hoistway/hoistwaylaw72.WindowsRows", spec := "windowsRows", unfollowed := true, recurses := true, plainKeys := false, apart := false }
def WindowsRowsSaid : Prop := windowsRowsRow.holds Try.pinned (OpenSpec.ofChange windowsRowsSpec)

/-- ITS FALSE NEIGHBOUR: 'it returns false'. Refute it at one input. -/
def windowsRowsWrong : ChangeSpec := { name := "windowsRows", fn := fun _ => fun
  | [d1, d2, d3] => { results := [.lit (.bool false)], args := [d1, d2, d3] }
  | _ => none }
def WindowsRowsWrongFalsely : Prop := windowsRowsRow.holds Try.pinned (OpenSpec.ofChange windowsRowsWrong)

/-- 'hoistwaylaw14.HistSums': WHATEVER THE INPUT: true; the input reads as it did. -/
def histSumsSpec : ChangeSpec := { name := "histSums", fn := fun _ => fun
  | [d1, d2, d3] => { results := [.lit (.bool true)], args := [d1, d2, d3] }
  | _ => none }
def histSumsRow : OpenClaim := { program := "yteebeiflipfbkaa", sum := "6869aa75bf4a8f5d0e9428efc2990ddbd57f0d826e2d68f883079e897009e450", func := "hoistway/hoistwaylaw14.HistSums", spec := "histSums", unfollowed := true, recurses := true, plainKeys := false, apart := false }
def HistSumsSaid : Prop := histSumsRow.holds Try.pinned (OpenSpec.ofChange histSumsSpec)

/-- ITS FALSE NEIGHBOUR: 'it returns false'. Refute it at one input. -/
def histSumsWrong : ChangeSpec := { name := "histSums", fn := fun _ => fun
  | [d1, d2, d3] => { results := [.lit (.bool false)], args := [d1, d2, d3] }
  | _ => none }
def HistSumsWrongFalsely : Prop := histSumsRow.holds Try.pinned (OpenSpec.ofChange histSumsWrong)

/-- 'hoistwaylaw60.ZoneLeast': WHATEVER THE INPUT: true; the input reads as it did. -/
def zoneLeastSpec : ChangeSpec := { name := "zoneLeast", fn := fun _ => fun
  | [d1, d2] => { results := [.lit (.bool true)], args := [d1, d2] }
  | _ => none }
def zoneLeastRow : OpenClaim := { program := "yteebeiflipfbkaa", sum := "6869aa75bf4a8f5d0e9428efc2990ddbd57f0d826e2d68f883079e897009e450", func := "hoistway/hoistwaylaw60.ZoneLeast", spec := "zoneLeast", unfollowed := true, recurses := true, plainKeys := false, apart := false }
def ZoneLeastSaid : Prop := zoneLeastRow.holds Try.pinned (OpenSpec.ofChange zoneLeastSpec)

/-- ITS FALSE NEIGHBOUR: 'it returns false'. Refute it at one input. -/
def zoneLeastWrong : ChangeSpec := { name := "zoneLeast", fn := fun _ => fun
  | [d1, d2] => { results := [.lit (.bool false)], args := [d1, d2] }
  | _ => none }
def ZoneLeastWrongFalsely : Prop := zoneLeastRow.holds Try.pinned (OpenSpec.ofChange zoneLeastWrong)

/- THE SECOND FORM. 'bulk': how many values and letters a reading holds, each counted each time it is reached (what is shared counts as often as it is met; a slice's spare places count too). A statement '..UptoSaid' is the law's where the arguments, and the package variables that the reading takes, are together of bulk at most 1048576: NARROWER than '..Said'. Prove '..Said' where nothing that the law and all that it calls make is longer than what came in: it says more and counts as full. Else prove '..UptoSaid'. A law counts once. -/
mutual
def uptoBulk {H : Type} : DataW H → Nat
  | .lit (.string bytes) => bytes.length + 1
  | .lit _ => 1
  | .nil => 1
  | .ptr d => uptoBulk d + 1
  | .slice elems spare => uptoBulkAll elems + uptoBulkAll spare + 1
  | .agg parts => uptoBulkAll parts + 1
  | .iface _ d => uptoBulk d + 1
  | .map entries => uptoBulkEntries entries + 1
  | .held _ => 1
def uptoBulkAll {H : Type} : List (DataW H) → Nat
  | [] => 0
  | d :: r => uptoBulk d + uptoBulkAll r
def uptoBulkEntries {H : Type} : List (Lit × DataW H) → Nat
  | [] => 0
  | x :: r => uptoBulkEntry x + uptoBulkEntries r
def uptoBulkEntry {H : Type} : Lit × DataW H → Nat
  | (.string bytes, d) => bytes.length + uptoBulk d + 1
  | (_, d) => uptoBulk d + 1
 end
def uptoSmall : (H : Type) → List (DataW H) → Bool := fun _ ds => decide (uptoBulkAll ds ≤ 1048576)
def OpenSpec.upto (s : _root_.Go.ChangeSpec) : _root_.Go.OpenSpec := { _root_.Go.OpenSpec.ofChange s with cond := some uptoSmall }

/-- 'hoistwaylaw38.DiffChanged', WHERE WHAT IT READS IS OF BULK AT MOST 1048576: true; the input reads as it did. -/
def diffChangedUptoRow : OpenClaim := { program := "yteebeiflipfbkaa", sum := "6869aa75bf4a8f5d0e9428efc2990ddbd57f0d826e2d68f883079e897009e450", func := "hoistway/hoistwaylaw38.DiffChanged", spec := "diffChanged", unfollowed := true, recurses := true, plainKeys := false, apart := false, narrowed := true }
def DiffChangedUptoSaid : Prop := diffChangedUptoRow.holds Try.pinned (OpenSpec.upto diffChangedSpec)

/-- 'hoistwaylaw62.PeopleTurns', WHERE WHAT IT READS IS OF BULK AT MOST 1048576: true; the input reads as it did. -/
def peopleTurnsUptoRow : OpenClaim := { program := "yteebeiflipfbkaa", sum := "6869aa75bf4a8f5d0e9428efc2990ddbd57f0d826e2d68f883079e897009e450", func := "hoistway/hoistwaylaw62.PeopleTurns", spec := "peopleTurns", unfollowed := true, recurses := true, plainKeys := false, apart := false, narrowed := true }
def PeopleTurnsUptoSaid : Prop := peopleTurnsUptoRow.holds Try.pinned (OpenSpec.upto peopleTurnsSpec)

/-- 'hoistwaylaw72.WindowsSums', WHERE WHAT IT READS IS OF BULK AT MOST 1048576: true; the input reads as it did. -/
def windowsSumsUptoRow : OpenClaim := { program := "yteebeiflipfbkaa", sum := "6869aa75bf4a8f5d0e9428efc2990ddbd57f0d826e2d68f883079e897009e450", func := "hoistway/hoistwaylaw72.WindowsSums", spec := "windowsSums", unfollowed := true, recurses := true, plainKeys := false, apart := false, narrowed := true }
def WindowsSumsUptoSaid : Prop := windowsSumsUptoRow.holds Try.pinned (OpenSpec.upto windowsSumsSpec)

/-- 'hoistwaylaw58.ObserveKinds', WHERE WHAT IT READS IS OF BULK AT MOST 1048576: true; the input reads as it did. -/
def observeKindsUptoRow : OpenClaim := { program := "yteebeiflipfbkaa", sum := "6869aa75bf4a8f5d0e9428efc2990ddbd57f0d826e2d68f883079e897009e450", func := "hoistway/hoistwaylaw58.ObserveKinds", spec := "observeKinds", plainKeys := false, apart := false, narrowed := true }
def ObserveKindsUptoSaid : Prop := observeKindsUptoRow.holds Try.pinned (OpenSpec.upto observeKindsSpec)

/-- 'hoistwaylaw60.ZoneWeighs', WHERE WHAT IT READS IS OF BULK AT MOST 1048576: true; the input reads as it did. -/
def zoneWeighsUptoRow : OpenClaim := { program := "yteebeiflipfbkaa", sum := "6869aa75bf4a8f5d0e9428efc2990ddbd57f0d826e2d68f883079e897009e450", func := "hoistway/hoistwaylaw60.ZoneWeighs", spec := "zoneWeighs", unfollowed := true, recurses := true, plainKeys := false, apart := false, narrowed := true }
def ZoneWeighsUptoSaid : Prop := zoneWeighsUptoRow.holds Try.pinned (OpenSpec.upto zoneWeighsSpec)

/-- 'hoistwaylaw69.ShuffleOrders', WHERE WHAT IT READS IS OF BULK AT MOST 1048576: true; the input reads as it did. -/
def shuffleOrdersUptoRow : OpenClaim := { program := "yteebeiflipfbkaa", sum := "6869aa75bf4a8f5d0e9428efc2990ddbd57f0d826e2d68f883079e897009e450", func := "hoistway/hoistwaylaw69.ShuffleOrders", spec := "shuffleOrders", plainKeys := false, apart := false, narrowed := true }
def ShuffleOrdersUptoSaid : Prop := shuffleOrdersUptoRow.holds Try.pinned (OpenSpec.upto shuffleOrdersSpec)

/-- 'hoistwaylaw38.DiffLogs', WHERE WHAT IT READS IS OF BULK AT MOST 1048576: true; the input reads as it did. -/
def diffLogsUptoRow : OpenClaim := { program := "yteebeiflipfbkaa", sum := "6869aa75bf4a8f5d0e9428efc2990ddbd57f0d826e2d68f883079e897009e450", func := "hoistway/hoistwaylaw38.DiffLogs", spec := "diffLogs", unfollowed := true, recurses := true, plainKeys := false, apart := false, narrowed := true }
def DiffLogsUptoSaid : Prop := diffLogsUptoRow.holds Try.pinned (OpenSpec.upto diffLogsSpec)

/-- 'hoistwaylaw04.PackBack', WHERE WHAT IT READS IS OF BULK AT MOST 1048576: true; the input reads as it did. -/
def packBackUptoRow : OpenClaim := { program := "yteebeiflipfbkaa", sum := "6869aa75bf4a8f5d0e9428efc2990ddbd57f0d826e2d68f883079e897009e450", func := "hoistway/hoistwaylaw04.PackBack", spec := "packBack", plainKeys := false, apart := false, narrowed := true }
def PackBackUptoSaid : Prop := packBackUptoRow.holds Try.pinned (OpenSpec.upto packBackSpec)

/-- 'hoistwaylaw72.WindowsRows', WHERE WHAT IT READS IS OF BULK AT MOST 1048576: true; the input reads as it did. -/
def windowsRowsUptoRow : OpenClaim := { program := "yteebeiflipfbkaa", sum := "6869aa75bf4a8f5d0e9428efc2990ddbd57f0d826e2d68f883079e897009e450", func := "hoistway/hoistwaylaw72.WindowsRows", spec := "windowsRows", unfollowed := true, recurses := true, plainKeys := false, apart := false, narrowed := true }
def WindowsRowsUptoSaid : Prop := windowsRowsUptoRow.holds Try.pinned (OpenSpec.upto windowsRowsSpec)

/-- 'hoistwaylaw14.HistSums', WHERE WHAT IT READS IS OF BULK AT MOST 1048576: true; the input reads as it did. -/
def histSumsUptoRow : OpenClaim := { program := "yteebeiflipfbkaa", sum := "6869aa75bf4a8f5d0e9428efc2990ddbd57f0d826e2d68f883079e897009e450", func := "hoistway/hoistwaylaw14.HistSums", spec := "histSums", unfollowed := true, recurses := true, plainKeys := false, apart := false, narrowed := true }
def HistSumsUptoSaid : Prop := histSumsUptoRow.holds Try.pinned (OpenSpec.upto histSumsSpec)

/-- 'hoistwaylaw60.ZoneLeast', WHERE WHAT IT READS IS OF BULK AT MOST 1048576: true; the input reads as it did. -/
def zoneLeastUptoRow : OpenClaim := { program := "yteebeiflipfbkaa", sum := "6869aa75bf4a8f5d0e9428efc2990ddbd57f0d826e2d68f883079e897009e450", func := "hoistway/hoistwaylaw60.ZoneLeast", spec := "zoneLeast", unfollowed := true, recurses := true, plainKeys := false, apart := false, narrowed := true }
def ZoneLeastUptoSaid : Prop := zoneLeastUptoRow.holds Try.pinned (OpenSpec.upto zoneLeastSpec)

end Rows
end Go.Proofs.Yteebeiflipfbkaa
