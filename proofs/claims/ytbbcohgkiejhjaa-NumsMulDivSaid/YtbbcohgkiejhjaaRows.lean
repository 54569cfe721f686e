/-
  No cell of these rows narrows 'for every input' (looked for: loops, veiled, ifaces, maps, wideKeys, modest, calm, conditions, laid).
  DERIVED. THE GIVEN ROWS OF THIS SEAT. 6 by the template 'for every input the law returns true; each argument reads behind the call as it read before'; 0 by the template 'total and deterministic' (their statements: YtbbcohgkiejhjaaTotals.lean).
  GIVEN WITH THE SEED: the statements are not yours to turn. If you find one false, say at which input.
  Laid BY PROGRAM, IN A SANDBOX (cutbox-rows.mjs): the forced cells as the released guide's own fill.sh prints them over the translation 70d394305f43bc19… (all of the seat's roots in one cut). By AI agents, Wed Nov 11 2026. No macro, syntax, notation, axiom, sorry.
-/
import Derived.Test.YtbbcohgkiejhjaaChecked
import GoSem.Claim
import GoSem.ClaimJoined
import GoSem.ClaimMapViews
import Derived.JoinedTies
import Derived.KernelRfl
namespace Go.Proofs.Ytbbcohgkiejhjaa
/- THE CELL 'sum', in the pinned program and in every row, IS THE sha256 OF THE DUMP (.gsa) THAT YtbbcohgkiejhjaaProg.lean LOADS. Nothing in Lean hashes anything: it is a label: what it is worth is what the hold of that sum in a sandbox is worth. -/
noncomputable def Try.pinned : Pinned := { name := "ytbbcohgkiejhjaa", sum := "70d394305f43bc19262d3f57c8491af129ab8a76e26ff6441a4f92ee92887540", checked := Try.checked }
namespace Rows
def none {H : Type} : Left H := { results := [], args := [] }

/-- 'hoistwaylaw01.NumsMulDiv': WHATEVER THE INPUT: true; the input reads as it did. -/
def numsMulDivSpec : ChangeSpec := { name := "numsMulDiv", fn := fun _ => fun
  | [d1, d2, d3] => { results := [.lit (.bool true)], args := [d1, d2, d3] }
  | _ => none }
def numsMulDivRow : OpenClaim := { program := "ytbbcohgkiejhjaa", sum := "70d394305f43bc19262d3f57c8491af129ab8a76e26ff6441a4f92ee92887540", func := "hoistway/hoistwaylaw01.NumsMulDiv", spec := "numsMulDiv", named := ["math/bits.divideError", "math/bits.overflowError"], apart := false }
def NumsMulDivSaid : Prop := numsMulDivRow.holds Try.pinned (OpenSpec.ofChange numsMulDivSpec)

/-- ITS FALSE NEIGHBOUR: 'it returns false'. Refute it at one input. -/
def numsMulDivWrong : ChangeSpec := { name := "numsMulDiv", fn := fun _ => fun
  | [d1, d2, d3] => { results := [.lit (.bool false)], args := [d1, d2, d3] }
  | _ => none }
def NumsMulDivWrongFalsely : Prop := numsMulDivRow.holds Try.pinned (OpenSpec.ofChange numsMulDivWrong)

/-- 'hoistwaylaw04.PackPuts': WHATEVER THE INPUT: true; the input reads as it did. -/
def packPutsSpec : ChangeSpec := { name := "packPuts", fn := fun _ => fun
  | [d1, d2, d3] => { results := [.lit (.bool true)], args := [d1, d2, d3] }
  | _ => none }
def packPutsRow : OpenClaim := { program := "ytbbcohgkiejhjaa", sum := "70d394305f43bc19262d3f57c8491af129ab8a76e26ff6441a4f92ee92887540", func := "hoistway/hoistwaylaw04.PackPuts", spec := "packPuts", recurses := true, apart := false }
def PackPutsSaid : Prop := packPutsRow.holds Try.pinned (OpenSpec.ofChange packPutsSpec)

/-- ITS FALSE NEIGHBOUR: 'it returns false'. Refute it at one input. -/
def packPutsWrong : ChangeSpec := { name := "packPuts", fn := fun _ => fun
  | [d1, d2, d3] => { results := [.lit (.bool false)], args := [d1, d2, d3] }
  | _ => none }
def PackPutsWrongFalsely : Prop := packPutsRow.holds Try.pinned (OpenSpec.ofChange packPutsWrong)

/-- 'hoistwaylaw04.PackReads': WHATEVER THE INPUT: true; the input reads as it did. -/
def packReadsSpec : ChangeSpec := { name := "packReads", fn := fun _ => fun
  | [d1, d2, d3] => { results := [.lit (.bool true)], args := [d1, d2, d3] }
  | _ => none }
def packReadsRow : OpenClaim := { program := "ytbbcohgkiejhjaa", sum := "70d394305f43bc19262d3f57c8491af129ab8a76e26ff6441a4f92ee92887540", func := "hoistway/hoistwaylaw04.PackReads", spec := "packReads", recurses := true, apart := false }
def PackReadsSaid : Prop := packReadsRow.holds Try.pinned (OpenSpec.ofChange packReadsSpec)

/-- ITS FALSE NEIGHBOUR: 'it returns false'. Refute it at one input. -/
def packReadsWrong : ChangeSpec := { name := "packReads", fn := fun _ => fun
  | [d1, d2, d3] => { results := [.lit (.bool false)], args := [d1, d2, d3] }
  | _ => none }
def PackReadsWrongFalsely : Prop := packReadsRow.holds Try.pinned (OpenSpec.ofChange packReadsWrong)

/-- 'hoistwaylaw04.PackBack': WHATEVER THE INPUT: true; the input reads as it did. -/
def packBackSpec : ChangeSpec := { name := "packBack", fn := fun _ => fun
  | [d1, d2] => { results := [.lit (.bool true)], args := [d1, d2] }
  | _ => none }
def packBackRow : OpenClaim := { program := "ytbbcohgkiejhjaa", sum := "70d394305f43bc19262d3f57c8491af129ab8a76e26ff6441a4f92ee92887540", func := "hoistway/hoistwaylaw04.PackBack", spec := "packBack", apart := false }
def PackBackSaid : Prop := packBackRow.holds Try.pinned (OpenSpec.ofChange packBackSpec)

/-- ITS FALSE NEIGHBOUR: 'it returns false'. Refute it at one input. -/
def packBackWrong : ChangeSpec := { name := "packBack", fn := fun _ => fun
  | [d1, d2] => { results := [.lit (.bool false)], args := [d1, d2] }
  | _ => none }
def PackBackWrongFalsely : Prop := packBackRow.holds Try.pinned (OpenSpec.ofChange packBackWrong)

/-- 'hoistwaylaw05.WordsDraw': WHATEVER THE INPUT: true; the input reads as it did. -/
def wordsDrawSpec : ChangeSpec := { name := "wordsDraw", fn := fun _ => fun
  | [d1, d2] => { results := [.lit (.bool true)], args := [d1, d2] }
  | _ => none }
def wordsDrawRow : OpenClaim := { program := "ytbbcohgkiejhjaa", sum := "70d394305f43bc19262d3f57c8491af129ab8a76e26ff6441a4f92ee92887540", func := "hoistway/hoistwaylaw05.WordsDraw", spec := "wordsDraw", apart := false }
def WordsDrawSaid : Prop := wordsDrawRow.holds Try.pinned (OpenSpec.ofChange wordsDrawSpec)

/-- ITS FALSE NEIGHBOUR: 'it returns false'. Refute it at one input. -/
def wordsDrawWrong : ChangeSpec := { name := "wordsDraw", fn := fun _ => fun
  | [d1, d2] => { results := [.lit (.bool false)], args := [d1, d2] }
  | _ => none }
def WordsDrawWrongFalsely : Prop := wordsDrawRow.holds Try.pinned (OpenSpec.ofChange wordsDrawWrong)

/-- 'hoistwaylaw05.WordsBelow': WHATEVER THE INPUT: true; the input reads as it did. -/
def wordsBelowSpec : ChangeSpec := { name := "wordsBelow", fn := fun _ => fun
  | [d1, d2] => { results := [.lit (.bool true)], args := [d1, d2] }
  | _ => none }
def wordsBelowRow : OpenClaim := { program := "ytbbcohgkiejhjaa", sum := "70d394305f43bc19262d3f57c8491af129ab8a76e26ff6441a4f92ee92887540", func := "hoistway/hoistwaylaw05.WordsBelow", spec := "wordsBelow", apart := false }
def WordsBelowSaid : Prop := wordsBelowRow.holds Try.pinned (OpenSpec.ofChange wordsBelowSpec)

/-- ITS FALSE NEIGHBOUR: 'it returns false'. Refute it at one input. -/
def wordsBelowWrong : ChangeSpec := { name := "wordsBelow", fn := fun _ => fun
  | [d1, d2] => { results := [.lit (.bool false)], args := [d1, d2] }
  | _ => none }
def WordsBelowWrongFalsely : Prop := wordsBelowRow.holds Try.pinned (OpenSpec.ofChange wordsBelowWrong)

/- THE SECOND FORM. 'bulk': how many values and letters a reading holds, each counted each time it is reached (what is shared counts as often as it is met; a slice's spare places count too). A statement '..UptoSaid' is the law's where the arguments, and the package variables that the reading takes, are together of bulk at most 1048576: NARROWER than '..Said'. Prove '..Said' where nothing that the law and all that it calls make is longer than what came in: it says more and counts as full. Else prove '..UptoSaid'. A law counts once. -/
mutual
def uptoBulk {H : Type} : DataW H → Nat
  | .lit (.string bytes) => bytes.length + 1
  | .lit _ => 1
  | .nil => 1
  | .ptr d => uptoBulk d + 1
  | .slice elems spare => uptoBulkAll elems + uptoBulkAll spare + 1
  | .agg parts => uptoBulkAll parts + 1
  | .iface _ d => uptoBulk d + 1
  | .map entries => uptoBulkEntries entries + 1
  | .held _ => 1
def uptoBulkAll {H : Type} : List (DataW H) → Nat
  | [] => 0
  | d :: r => uptoBulk d + uptoBulkAll r
def uptoBulkEntries {H : Type} : List (Lit × DataW H) → Nat
  | [] => 0
  | x :: r => uptoBulkEntry x + uptoBulkEntries r
def uptoBulkEntry {H : Type} : Lit × DataW H → Nat
  | (.string bytes, d) => bytes.length + uptoBulk d + 1
  | (_, d) => uptoBulk d + 1
 end
def uptoSmall : (H : Type) → List (DataW H) → Bool := fun _ ds => decide (uptoBulkAll ds ≤ 1048576)
def OpenSpec.upto (s : _root_.Go.ChangeSpec) : _root_.Go.OpenSpec := { _root_.Go.OpenSpec.ofChange s with cond := some uptoSmall }

/-- 'hoistwaylaw01.NumsMulDiv', WHERE WHAT IT READS IS OF BULK AT MOST 1048576: true; the input reads as it did. -/
def numsMulDivUptoRow : OpenClaim := { program := "ytbbcohgkiejhjaa", sum := "70d394305f43bc19262d3f57c8491af129ab8a76e26ff6441a4f92ee92887540", func := "hoistway/hoistwaylaw01.NumsMulDiv", spec := "numsMulDiv", named := ["math/bits.divideError", "math/bits.overflowError"], apart := false, narrowed := true }
def NumsMulDivUptoSaid : Prop := numsMulDivUptoRow.holds Try.pinned (OpenSpec.upto numsMulDivSpec)

/-- 'hoistwaylaw04.PackPuts', WHERE WHAT IT READS IS OF BULK AT MOST 1048576: true; the input reads as it did. -/
def packPutsUptoRow : OpenClaim := { program := "ytbbcohgkiejhjaa", sum := "70d394305f43bc19262d3f57c8491af129ab8a76e26ff6441a4f92ee92887540", func := "hoistway/hoistwaylaw04.PackPuts", spec := "packPuts", recurses := true, apart := false, narrowed := true }
def PackPutsUptoSaid : Prop := packPutsUptoRow.holds Try.pinned (OpenSpec.upto packPutsSpec)

/-- 'hoistwaylaw04.PackReads', WHERE WHAT IT READS IS OF BULK AT MOST 1048576: true; the input reads as it did. -/
def packReadsUptoRow : OpenClaim := { program := "ytbbcohgkiejhjaa", sum := "70d394305f43bc19262d3f57c8491af129ab8a76e26ff6441a4f92ee92887540", func := "hoistway/hoistwaylaw04.PackReads", spec := "packReads", recurses := true, apart := false, narrowed := true }
def PackReadsUptoSaid : Prop := packReadsUptoRow.holds Try.pinned (OpenSpec.upto packReadsSpec)

/-- 'hoistwaylaw04.PackBack', WHERE WHAT IT READS IS OF BULK AT MOST 1048576: true; the input reads as it did. -/
def packBackUptoRow : OpenClaim := { program := "ytbbcohgkiejhjaa", sum := "70d394305f43bc19262d3f57c8491af129ab8a76e26ff6441a4f92ee92887540", func := "hoistway/hoistwaylaw04.PackBack", spec := "packBack", apart := false, narrowed := true }
def PackBackUptoSaid : Prop := packBackUptoRow.holds Try.pinned (OpenSpec.upto packBackSpec)

/-- 'hoistwaylaw05.WordsDraw', WHERE WHAT IT READS IS OF BULK AT MOST 1048576: true; the input reads as it did. -/
def wordsDrawUptoRow : OpenClaim := { program := "ytbbcohgkiejhjaa", sum := "70d394305f43bc19262d3f57c8491af129ab8a76e26ff6441a4f92ee92887540", func := "hoistway/hoistwaylaw05.WordsDraw", spec := "wordsDraw", apart := false, narrowed := true }
def WordsDrawUptoSaid : Prop := wordsDrawUptoRow.holds Try.pinned (OpenSpec.upto wordsDrawSpec)

/-- 'hoistwaylaw05.WordsBelow', WHERE WHAT IT READS IS OF BULK AT MOST 1048576: true; the input reads as it did. -/
def wordsBelowUptoRow : OpenClaim := { program := "ytbbcohgkiejhjaa", sum := "70d394305f43bc19262d3f57c8491af129ab8a76e26ff6441a4f92ee92887540", func := "hoistway/hoistwaylaw05.WordsBelow", spec := "wordsBelow", apart := false, narrowed := true }
def WordsBelowUptoSaid : Prop := wordsBelowUptoRow.holds Try.pinned (OpenSpec.upto wordsBelowSpec)

end Rows
end Go.Proofs.Ytbbcohgkiejhjaa
