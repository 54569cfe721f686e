/-
  No cell of these rows narrows 'for every input' (looked for: loops, veiled, ifaces, maps, wideKeys, modest, calm, conditions, laid).
  DERIVED. THE GIVEN ROWS OF THIS SEAT. 3 by the template 'for every input the law returns true; each argument reads behind the call as it read before'; 0 by the template 'total and deterministic' (their statements: YtloplambpfjioaaTotals.lean).
  GIVEN WITH THE SEED: the statements are not yours to turn. If you find one false, say at which input.
  Laid BY PROGRAM, IN A SANDBOX (cutbox-rows.mjs): the forced cells as the released guide's own fill.sh prints them over the translation e231c37ef4afac51… (all of the seat's roots in one cut). By AI agents, Wed Nov 11 2026. No macro, syntax, notation, axiom, sorry.
-/
import Derived.Test.YtloplambpfjioaaChecked
import GoSem.Claim
import GoSem.ClaimJoined
import GoSem.ClaimMapViews
import Derived.JoinedTies
import Derived.KernelRfl
namespace Go.Proofs.Ytloplambpfjioaa
/- THE CELL 'sum', in the pinned program and in every row, IS THE sha256 OF THE DUMP (.gsa) THAT YtloplambpfjioaaProg.lean LOADS. Nothing in Lean hashes anything: it is a label: what it is worth is what the hold of that sum in a sandbox is worth. -/
noncomputable def Try.pinned : Pinned := { name := "ytloplambpfjioaa", sum := "e231c37ef4afac51424ad216692dbcf45ea120cbeb137950c9e8663365dea593", checked := Try.checked }
namespace Rows
def none {H : Type} : Left H := { results := [], args := [] }

/-- 'hoistwaylaw61.ParkCosts': WHATEVER THE INPUT: true; the input reads as it did. -/
def parkCostsSpec : ChangeSpec := { name := "parkCosts", fn := fun _ => fun
  | [d1, d2] => { results := [.lit (.bool true)], args := [d1, d2] }
  | _ => none }
def parkCostsRow : OpenClaim := { program := "ytloplambpfjioaa", sum := "e231c37ef4afac51424ad216692dbcf45ea120cbeb137950c9e8663365dea593", func := "hoistway/hoistwaylaw61.ParkCosts", spec := "parkCosts", apart := false }
def ParkCostsSaid : Prop := parkCostsRow.holds Try.pinned (OpenSpec.ofChange parkCostsSpec)

/-- ITS FALSE NEIGHBOUR: 'it returns false'. Refute it at one input. -/
def parkCostsWrong : ChangeSpec := { name := "parkCosts", fn := fun _ => fun
  | [d1, d2] => { results := [.lit (.bool false)], args := [d1, d2] }
  | _ => none }
def ParkCostsWrongFalsely : Prop := parkCostsRow.holds Try.pinned (OpenSpec.ofChange parkCostsWrong)

/-- 'hoistwaylaw61.ParkLeast': WHATEVER THE INPUT: true; the input reads as it did. -/
def parkLeastSpec : ChangeSpec := { name := "parkLeast", fn := fun _ => fun
  | [d1, d2] => { results := [.lit (.bool true)], args := [d1, d2] }
  | _ => none }
def parkLeastRow : OpenClaim := { program := "ytloplambpfjioaa", sum := "e231c37ef4afac51424ad216692dbcf45ea120cbeb137950c9e8663365dea593", func := "hoistway/hoistwaylaw61.ParkLeast", spec := "parkLeast", apart := false }
def ParkLeastSaid : Prop := parkLeastRow.holds Try.pinned (OpenSpec.ofChange parkLeastSpec)

/-- ITS FALSE NEIGHBOUR: 'it returns false'. Refute it at one input. -/
def parkLeastWrong : ChangeSpec := { name := "parkLeast", fn := fun _ => fun
  | [d1, d2] => { results := [.lit (.bool false)], args := [d1, d2] }
  | _ => none }
def ParkLeastWrongFalsely : Prop := parkLeastRow.holds Try.pinned (OpenSpec.ofChange parkLeastWrong)

/-- 'hoistwaylaw61.ParkFloors': WHATEVER THE INPUT: true; the input reads as it did. -/
def parkFloorsSpec : ChangeSpec := { name := "parkFloors", fn := fun _ => fun
  | [d1, d2] => { results := [.lit (.bool true)], args := [d1, d2] }
  | _ => none }
def parkFloorsRow : OpenClaim := { program := "ytloplambpfjioaa", sum := "e231c37ef4afac51424ad216692dbcf45ea120cbeb137950c9e8663365dea593", func := "hoistway/hoistwaylaw61.ParkFloors", spec := "parkFloors", apart := false }
def ParkFloorsSaid : Prop := parkFloorsRow.holds Try.pinned (OpenSpec.ofChange parkFloorsSpec)

/-- ITS FALSE NEIGHBOUR: 'it returns false'. Refute it at one input. -/
def parkFloorsWrong : ChangeSpec := { name := "parkFloors", fn := fun _ => fun
  | [d1, d2] => { results := [.lit (.bool false)], args := [d1, d2] }
  | _ => none }
def ParkFloorsWrongFalsely : Prop := parkFloorsRow.holds Try.pinned (OpenSpec.ofChange parkFloorsWrong)

/- THE SECOND FORM. 'bulk': how many values and letters a reading holds, each counted each time it is reached (what is shared counts as often as it is met; a slice's spare places count too). A statement '..UptoSaid' is the law's where the arguments, and the package variables that the reading takes, are together of bulk at most 1048576: NARROWER than '..Said'. Prove '..Said' where nothing that the law and all that it calls make is longer than what came in: it says more and counts as full. Else prove '..UptoSaid'. A law counts once. -/
mutual
def uptoBulk {H : Type} : DataW H → Nat
  | .lit (.string bytes) => bytes.length + 1
  | .lit _ => 1
  | .nil => 1
  | .ptr d => uptoBulk d + 1
  | .slice elems spare => uptoBulkAll elems + uptoBulkAll spare + 1
  | .agg parts => uptoBulkAll parts + 1
  | .iface _ d => uptoBulk d + 1
  | .map entries => uptoBulkEntries entries + 1
  | .held _ => 1
def uptoBulkAll {H : Type} : List (DataW H) → Nat
  | [] => 0
  | d :: r => uptoBulk d + uptoBulkAll r
def uptoBulkEntries {H : Type} : List (Lit × DataW H) → Nat
  | [] => 0
  | x :: r => uptoBulkEntry x + uptoBulkEntries r
def uptoBulkEntry {H : Type} : Lit × DataW H → Nat
  | (.string bytes, d) => bytes.length + uptoBulk d + 1
  | (_, d) => uptoBulk d + 1
 end
def uptoSmall : (H : Type) → List (DataW H) → Bool := fun _ ds => decide (uptoBulkAll ds ≤ 1048576)
def OpenSpec.upto (s : _root_.Go.ChangeSpec) : _root_.Go.OpenSpec := { _root_.Go.OpenSpec.ofChange s with cond := some uptoSmall }

/-- 'hoistwaylaw61.ParkCosts', WHERE WHAT IT READS IS OF BULK AT MOST 1048576: true; the input reads as it did. -/
def parkCostsUptoRow : OpenClaim := { program := "ytloplambpfjioaa", sum := "e231c37ef4afac51424ad216692dbcf45ea120cbeb137950c9e8663365dea593", func := "hoistway/hoistwaylaw61.ParkCosts", spec := "parkCosts", apart := false, narrowed := true }
def ParkCostsUptoSaid : Prop := parkCostsUptoRow.holds Try.pinned (OpenSpec.upto parkCostsSpec)

/-- 'hoistwaylaw61.ParkLeast', WHERE WHAT IT READS IS OF BULK AT MOST 1048576: true; the input reads as it did. -/
def parkLeastUptoRow : OpenClaim := { program := "ytloplambpfjioaa", sum := "e231c37ef4afac51424ad216692dbcf45ea120cbeb137950c9e8663365dea593", func := "hoistway/hoistwaylaw61.ParkLeast", spec := "parkLeast", apart := false, narrowed := true }
def ParkLeastUptoSaid : Prop := parkLeastUptoRow.holds Try.pinned (OpenSpec.upto parkLeastSpec)

/-- 'hoistwaylaw61.ParkFloors', WHERE WHAT IT READS IS OF BULK AT MOST 1048576: true; the input reads as it did. -/
def parkFloorsUptoRow : OpenClaim := { program := "ytloplambpfjioaa", sum := "e231c37ef4afac51424ad216692dbcf45ea120cbeb137950c9e8663365dea593", func := "hoistway/hoistwaylaw61.ParkFloors", spec := "parkFloors", apart := false, narrowed := true }
def ParkFloorsUptoSaid : Prop := parkFloorsUptoRow.holds Try.pinned (OpenSpec.upto parkFloorsSpec)

end Rows
end Go.Proofs.Ytloplambpfjioaa
