/-
  No cell of these rows narrows 'for every input' (looked for: loops, veiled, ifaces, maps, wideKeys, modest, calm, conditions, laid).
  DERIVED. THE GIVEN ROWS OF THIS SEAT. 7 by the template 'for every input the law returns true; each argument reads behind the call as it read before'; 0 by the template 'total and deterministic' (their statements: YtkepplkfjcoemacTotals.lean).
  GIVEN WITH THE SEED: the statements are not yours to turn. If you find one false, say at which input.
  Laid BY PROGRAM, IN A SANDBOX (cutbox-rows.mjs): the forced cells as the released guide's own fill.sh prints them over the translation 4d462e1538831ce5… (all of the seat's roots in one cut). By AI agents, Wed Nov 11 2026. No macro, syntax, notation, axiom, sorry.
-/
import Derived.Test.YtkepplkfjcoemacChecked
import GoSem.Claim
import GoSem.ClaimJoined
import GoSem.ClaimMapViews
import Derived.JoinedTies
import Derived.KernelRfl
namespace Go.Proofs.Ytkepplkfjcoemac
/- THE CELL 'sum', in the pinned program and in every row, IS THE sha256 OF THE DUMP (.gsa) THAT YtkepplkfjcoemacProg.lean LOADS. Nothing in Lean hashes anything: it is a label: what it is worth is what the hold of that sum in a sandbox is worth. -/
noncomputable def Try.pinned : Pinned := { name := "ytkepplkfjcoemac", sum := "4d462e1538831ce585891bb2f5a6b60cb0c5281935704a21015d22995ed7c20c", checked := Try.checked }
namespace Rows
def none {H : Type} : Left H := { results := [], args := [] }

/-- 'hoistwaylaw14.HistSums': WHATEVER THE INPUT: true; the input reads as it did. -/
def histSumsSpec : ChangeSpec := { name := "histSums", fn := fun _ => fun
  | [d1, d2, d3] => { results := [.lit (.bool true)], args := [d1, d2, d3] }
  | _ => none }
def histSumsRow : OpenClaim := { program := "ytkepplkfjcoemac", sum := "4d462e1538831ce585891bb2f5a6b60cb0c5281935704a21015d22995ed7c20c", func := "hoistway/hoistwaylaw14.HistSums", spec := "histSums", unfollowed := true, recurses := true, apart := false }
def HistSumsSaid : Prop := histSumsRow.holds Try.pinned (OpenSpec.ofChange histSumsSpec)

/-- ITS FALSE NEIGHBOUR: 'it returns false'. Refute it at one input. -/
def histSumsWrong : ChangeSpec := { name := "histSums", fn := fun _ => fun
  | [d1, d2, d3] => { results := [.lit (.bool false)], args := [d1, d2, d3] }
  | _ => none }
def HistSumsWrongFalsely : Prop := histSumsRow.holds Try.pinned (OpenSpec.ofChange histSumsWrong)

/-- 'hoistwaylaw15.RankTells': WHATEVER THE INPUT: true; the input reads as it did. -/
def rankTellsSpec : ChangeSpec := { name := "rankTells", fn := fun _ => fun
  | [d1, d2, d3] => { results := [.lit (.bool true)], args := [d1, d2, d3] }
  | _ => none }
def rankTellsRow : OpenClaim := { program := "ytkepplkfjcoemac", sum := "4d462e1538831ce585891bb2f5a6b60cb0c5281935704a21015d22995ed7c20c", func := "hoistway/hoistwaylaw15.RankTells", spec := "rankTells", unfollowed := true, recurses := true, apart := false }
def RankTellsSaid : Prop := rankTellsRow.holds Try.pinned (OpenSpec.ofChange rankTellsSpec)

/-- ITS FALSE NEIGHBOUR: 'it returns false'. Refute it at one input. -/
def rankTellsWrong : ChangeSpec := { name := "rankTells", fn := fun _ => fun
  | [d1, d2, d3] => { results := [.lit (.bool false)], args := [d1, d2, d3] }
  | _ => none }
def RankTellsWrongFalsely : Prop := rankTellsRow.holds Try.pinned (OpenSpec.ofChange rankTellsWrong)

/-- 'hoistwaylaw15.RankPlaces': WHATEVER THE INPUT: true; the input reads as it did. -/
def rankPlacesSpec : ChangeSpec := { name := "rankPlaces", fn := fun _ => fun
  | [d1, d2] => { results := [.lit (.bool true)], args := [d1, d2] }
  | _ => none }
def rankPlacesRow : OpenClaim := { program := "ytkepplkfjcoemac", sum := "4d462e1538831ce585891bb2f5a6b60cb0c5281935704a21015d22995ed7c20c", func := "hoistway/hoistwaylaw15.RankPlaces", spec := "rankPlaces", unfollowed := true, recurses := true, apart := false }
def RankPlacesSaid : Prop := rankPlacesRow.holds Try.pinned (OpenSpec.ofChange rankPlacesSpec)

/-- ITS FALSE NEIGHBOUR: 'it returns false'. Refute it at one input. -/
def rankPlacesWrong : ChangeSpec := { name := "rankPlaces", fn := fun _ => fun
  | [d1, d2] => { results := [.lit (.bool false)], args := [d1, d2] }
  | _ => none }
def RankPlacesWrongFalsely : Prop := rankPlacesRow.holds Try.pinned (OpenSpec.ofChange rankPlacesWrong)

/-- 'hoistwaylaw15.RankMany': WHATEVER THE INPUT: true; the input reads as it did. -/
def rankManySpec : ChangeSpec := { name := "rankMany", fn := fun _ => fun
  | [d1, d2] => { results := [.lit (.bool true)], args := [d1, d2] }
  | _ => none }
def rankManyRow : OpenClaim := { program := "ytkepplkfjcoemac", sum := "4d462e1538831ce585891bb2f5a6b60cb0c5281935704a21015d22995ed7c20c", func := "hoistway/hoistwaylaw15.RankMany", spec := "rankMany", unfollowed := true, recurses := true, apart := false }
def RankManySaid : Prop := rankManyRow.holds Try.pinned (OpenSpec.ofChange rankManySpec)

/-- ITS FALSE NEIGHBOUR: 'it returns false'. Refute it at one input. -/
def rankManyWrong : ChangeSpec := { name := "rankMany", fn := fun _ => fun
  | [d1, d2] => { results := [.lit (.bool false)], args := [d1, d2] }
  | _ => none }
def RankManyWrongFalsely : Prop := rankManyRow.holds Try.pinned (OpenSpec.ofChange rankManyWrong)

/-- 'hoistwaylaw17.PlaceFloors': WHATEVER THE INPUT: true; the input reads as it did. -/
def placeFloorsSpec : ChangeSpec := { name := "placeFloors", fn := fun _ => fun
  | [d1, d2, d3] => { results := [.lit (.bool true)], args := [d1, d2, d3] }
  | _ => none }
def placeFloorsRow : OpenClaim := { program := "ytkepplkfjcoemac", sum := "4d462e1538831ce585891bb2f5a6b60cb0c5281935704a21015d22995ed7c20c", func := "hoistway/hoistwaylaw17.PlaceFloors", spec := "placeFloors", apart := false }
def PlaceFloorsSaid : Prop := placeFloorsRow.holds Try.pinned (OpenSpec.ofChange placeFloorsSpec)

/-- ITS FALSE NEIGHBOUR: 'it returns false'. Refute it at one input. -/
def placeFloorsWrong : ChangeSpec := { name := "placeFloors", fn := fun _ => fun
  | [d1, d2, d3] => { results := [.lit (.bool false)], args := [d1, d2, d3] }
  | _ => none }
def PlaceFloorsWrongFalsely : Prop := placeFloorsRow.holds Try.pinned (OpenSpec.ofChange placeFloorsWrong)

/-- 'hoistwaylaw17.PlaceWays': WHATEVER THE INPUT: true; the input reads as it did. -/
def placeWaysSpec : ChangeSpec := { name := "placeWays", fn := fun _ => fun
  | [d1, d2, d3] => { results := [.lit (.bool true)], args := [d1, d2, d3] }
  | _ => none }
def placeWaysRow : OpenClaim := { program := "ytkepplkfjcoemac", sum := "4d462e1538831ce585891bb2f5a6b60cb0c5281935704a21015d22995ed7c20c", func := "hoistway/hoistwaylaw17.PlaceWays", spec := "placeWays", apart := false }
def PlaceWaysSaid : Prop := placeWaysRow.holds Try.pinned (OpenSpec.ofChange placeWaysSpec)

/-- ITS FALSE NEIGHBOUR: 'it returns false'. Refute it at one input. -/
def placeWaysWrong : ChangeSpec := { name := "placeWays", fn := fun _ => fun
  | [d1, d2, d3] => { results := [.lit (.bool false)], args := [d1, d2, d3] }
  | _ => none }
def PlaceWaysWrongFalsely : Prop := placeWaysRow.holds Try.pinned (OpenSpec.ofChange placeWaysWrong)

/-- 'hoistwaylaw17.PlaceNext': WHATEVER THE INPUT: true; the input reads as it did. -/
def placeNextSpec : ChangeSpec := { name := "placeNext", fn := fun _ => fun
  | [d1, d2, d3] => { results := [.lit (.bool true)], args := [d1, d2, d3] }
  | _ => none }
def placeNextRow : OpenClaim := { program := "ytkepplkfjcoemac", sum := "4d462e1538831ce585891bb2f5a6b60cb0c5281935704a21015d22995ed7c20c", func := "hoistway/hoistwaylaw17.PlaceNext", spec := "placeNext", apart := false }
def PlaceNextSaid : Prop := placeNextRow.holds Try.pinned (OpenSpec.ofChange placeNextSpec)

/-- ITS FALSE NEIGHBOUR: 'it returns false'. Refute it at one input. -/
def placeNextWrong : ChangeSpec := { name := "placeNext", fn := fun _ => fun
  | [d1, d2, d3] => { results := [.lit (.bool false)], args := [d1, d2, d3] }
  | _ => none }
def PlaceNextWrongFalsely : Prop := placeNextRow.holds Try.pinned (OpenSpec.ofChange placeNextWrong)

/- THE SECOND FORM. 'bulk': how many values and letters a reading holds, each counted each time it is reached (what is shared counts as often as it is met; a slice's spare places count too). A statement '..UptoSaid' is the law's where the arguments, and the package variables that the reading takes, are together of bulk at most 1048576: NARROWER than '..Said'. Prove '..Said' where nothing that the law and all that it calls make is longer than what came in: it says more and counts as full. Else prove '..UptoSaid'. A law counts once. -/
mutual
def uptoBulk {H : Type} : DataW H → Nat
  | .lit (.string bytes) => bytes.length + 1
  | .lit _ => 1
  | .nil => 1
  | .ptr d => uptoBulk d + 1
  | .slice elems spare => uptoBulkAll elems + uptoBulkAll spare + 1
  | .agg parts => uptoBulkAll parts + 1
  | .iface _ d => uptoBulk d + 1
  | .map entries => uptoBulkEntries entries + 1
  | .held _ => 1
def uptoBulkAll {H : Type} : List (DataW H) → Nat
  | [] => 0
  | d :: r => uptoBulk d + uptoBulkAll r
def uptoBulkEntries {H : Type} : List (Lit × DataW H) → Nat
  | [] => 0
  | x :: r => uptoBulkEntry x + uptoBulkEntries r
def uptoBulkEntry {H : Type} : Lit × DataW H → Nat
  | (.string bytes, d) => bytes.length + uptoBulk d + 1
  | (_, d) => uptoBulk d + 1
 end
def uptoSmall : (H : Type) → List (DataW H) → Bool := fun _ ds => decide (uptoBulkAll ds ≤ 1048576)
def OpenSpec.upto (s : _root_.Go.ChangeSpec) : _root_.Go.OpenSpec := { _root_.Go.OpenSpec.ofChange s with cond := some uptoSmall }

/-- 'hoistwaylaw14.HistSums', WHERE WHAT IT READS IS OF BULK AT MOST 1048576: true; the input reads as it did. -/
def histSumsUptoRow : OpenClaim := { program := "ytkepplkfjcoemac", sum := "4d462e1538831ce585891bb2f5a6b60cb0c5281935704a21015d22995ed7c20c", func := "hoistway/hoistwaylaw14.HistSums", spec := "histSums", unfollowed := true, recurses := true, apart := false, narrowed := true }
def HistSumsUptoSaid : Prop := histSumsUptoRow.holds Try.pinned (OpenSpec.upto histSumsSpec)

/-- 'hoistwaylaw15.RankTells', WHERE WHAT IT READS IS OF BULK AT MOST 1048576: true; the input reads as it did. -/
def rankTellsUptoRow : OpenClaim := { program := "ytkepplkfjcoemac", sum := "4d462e1538831ce585891bb2f5a6b60cb0c5281935704a21015d22995ed7c20c", func := "hoistway/hoistwaylaw15.RankTells", spec := "rankTells", unfollowed := true, recurses := true, apart := false, narrowed := true }
def RankTellsUptoSaid : Prop := rankTellsUptoRow.holds Try.pinned (OpenSpec.upto rankTellsSpec)

/-- 'hoistwaylaw15.RankPlaces', WHERE WHAT IT READS IS OF BULK AT MOST 1048576: true; the input reads as it did. -/
def rankPlacesUptoRow : OpenClaim := { program := "ytkepplkfjcoemac", sum := "4d462e1538831ce585891bb2f5a6b60cb0c5281935704a21015d22995ed7c20c", func := "hoistway/hoistwaylaw15.RankPlaces", spec := "rankPlaces", unfollowed := true, recurses := true, apart := false, narrowed := true }
def RankPlacesUptoSaid : Prop := rankPlacesUptoRow.holds Try.pinned (OpenSpec.upto rankPlacesSpec)

/-- 'hoistwaylaw15.RankMany', WHERE WHAT IT READS IS OF BULK AT MOST 1048576: true; the input reads as it did. -/
def rankManyUptoRow : OpenClaim := { program := "ytkepplkfjcoemac", sum := "4d462e1538831ce585891bb2f5a6b60cb0c5281935704a21015d22995ed7c20c", func := "hoistway/hoistwaylaw15.RankMany", spec := "rankMany", unfollowed := true, recurses := true, apart := false, narrowed := true }
def RankManyUptoSaid : Prop := rankManyUptoRow.holds Try.pinned (OpenSpec.upto rankManySpec)

/-- 'hoistwaylaw17.PlaceFloors', WHERE WHAT IT READS IS OF BULK AT MOST 1048576: true; the input reads as it did. -/
def placeFloorsUptoRow : OpenClaim := { program := "ytkepplkfjcoemac", sum := "4d462e1538831ce585891bb2f5a6b60cb0c5281935704a21015d22995ed7c20c", func := "hoistway/hoistwaylaw17.PlaceFloors", spec := "placeFloors", apart := false, narrowed := true }
def PlaceFloorsUptoSaid : Prop := placeFloorsUptoRow.holds Try.pinned (OpenSpec.upto placeFloorsSpec)

/-- 'hoistwaylaw17.PlaceWays', WHERE WHAT IT READS IS OF BULK AT MOST 1048576: true; the input reads as it did. -/
def placeWaysUptoRow : OpenClaim := { program := "ytkepplkfjcoemac", sum := "4d462e1538831ce585891bb2f5a6b60cb0c5281935704a21015d22995ed7c20c", func := "hoistway/hoistwaylaw17.PlaceWays", spec := "placeWays", apart := false, narrowed := true }
def PlaceWaysUptoSaid : Prop := placeWaysUptoRow.holds Try.pinned (OpenSpec.upto placeWaysSpec)

/-- 'hoistwaylaw17.PlaceNext', WHERE WHAT IT READS IS OF BULK AT MOST 1048576: true; the input reads as it did. -/
def placeNextUptoRow : OpenClaim := { program := "ytkepplkfjcoemac", sum := "4d462e1538831ce585891bb2f5a6b60cb0c5281935704a21015d22995ed7c20c", func := "hoistway/hoistwaylaw17.PlaceNext", spec := "placeNext", apart := false, narrowed := true }
def PlaceNextUptoSaid : Prop := placeNextUptoRow.holds Try.pinned (OpenSpec.upto placeNextSpec)

end Rows
end Go.Proofs.Ytkepplkfjcoemac
