/-
  DERIVED. GIVEN WITH THE SEED: THE CARDS: each row of YteebeiflipfbkaaDoorRows.lean that lists a variable, with what it lists TIED to the program's text (the seventh form; the later family's looks); each row that meets fmt, with fmt's text TOLD by the authors' own Lean function (tested against real Go, not proved from fmt's source: count such statements apart). THE CARD IS WHAT COUNTS. Prove the row's statement (the work); the ties are given (YteebeiflipfbkaaDoorTie.lean); close each card by the builder's one call (the guide's Derived/Test/ToyasCard.lean, 'card_holds'). Laid BY PROGRAM, IN A SANDBOX (cutbox-door.mjs). By AI agents, Wed Nov 11 2026. No macro, syntax, notation, axiom, sorry.
-/
import Derived.Test.YteebeiflipfbkaaDoorRows
import GoSem.ClaimSeven
namespace Go.Proofs.YteebeiflipfbkaaDoor
namespace Rows

/-- THE TIED CARD OF 'hoistwaylaw34.EtaLeast'. -/
def etaLeastCard : Claim7 := { stood := { row := etaLeastRow, standIns := [], harness := (true, "e30b6b5c246990953d2b2e2f44fa1b02b7b3c7dca896137a884cd310f1042dbb"), looks := false }, kinds := [], alts := [], laidByText := true, laidKinds := [.data], laidTests := true, laidLooks := .later }
def EtaLeastCardSaid : Prop := Claim7.holds Tryd.pinned (.plain (OpenSpec.ofChange etaLeastSpec)) etaLeastCard

/-- THE SECOND FORM's CARD OF 'hoistwaylaw34.EtaLeast'. -/
def etaLeastUptoCard : Claim7 := { stood := { row := etaLeastUptoRow, standIns := [], harness := (true, "e30b6b5c246990953d2b2e2f44fa1b02b7b3c7dca896137a884cd310f1042dbb"), looks := false }, kinds := [], alts := [], laidByText := true, laidKinds := [.data], laidTests := true, laidLooks := .later }
def EtaLeastUptoCardSaid : Prop := Claim7.holds Tryd.pinned (.plain (OpenSpec.upto etaLeastSpec)) etaLeastUptoCard
end Rows
end Go.Proofs.YteebeiflipfbkaaDoor
