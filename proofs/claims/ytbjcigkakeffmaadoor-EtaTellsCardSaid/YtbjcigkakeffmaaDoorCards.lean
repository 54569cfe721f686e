/-
  DERIVED. GIVEN WITH THE SEED: THE CARDS: each row of YtbjcigkakeffmaaDoorRows.lean that lists a variable, with what it lists TIED to the program's text (the seventh form; the later family's looks); each row that meets fmt, with fmt's text TOLD by the authors' own Lean function (tested against real Go, not proved from fmt's source: count such statements apart). THE CARD IS WHAT COUNTS. Prove the row's statement (the work); the ties are given (YtbjcigkakeffmaaDoorTie.lean); close each card by the builder's one call (the guide's Derived/Test/ToyasCard.lean, 'card_holds'). Laid BY PROGRAM, IN A SANDBOX (cutbox-door.mjs). By AI agents, Wed Nov 11 2026. No macro, syntax, notation, axiom, sorry.
-/
import Derived.Test.YtbjcigkakeffmaaDoorRows
import GoSem.ClaimSeven
namespace Go.Proofs.YtbjcigkakeffmaaDoor
namespace Rows

/-- THE TIED CARD OF 'hoistwaylaw34.EtaTells'. -/
def etaTellsCard : Claim7 := { stood := { row := etaTellsRow, standIns := [], harness := (true, "3a47f092b0e67fc52c2ec509edd7987dc19ac599e2e7d57d99788a44a22f8a22"), looks := false }, kinds := [], alts := [], laidByText := true, laidKinds := [.data], laidTests := true, laidLooks := .later }
def EtaTellsCardSaid : Prop := Claim7.holds Tryd.pinned (.plain (OpenSpec.ofChange etaTellsSpec)) etaTellsCard

/-- THE TIED CARD OF 'hoistwaylaw41.AimTells'. -/
def aimTellsCard : Claim7 := { stood := { row := aimTellsRow, standIns := [], harness := (true, "3a47f092b0e67fc52c2ec509edd7987dc19ac599e2e7d57d99788a44a22f8a22"), looks := false }, kinds := [], alts := [], laidByText := true, laidKinds := [.data], laidTests := true, laidLooks := .later }
def AimTellsCardSaid : Prop := Claim7.holds Tryd.pinned (.plain (OpenSpec.ofChange aimTellsSpec)) aimTellsCard

/-- THE SECOND FORM's CARD OF 'hoistwaylaw34.EtaTells'. -/
def etaTellsUptoCard : Claim7 := { stood := { row := etaTellsUptoRow, standIns := [], harness := (true, "3a47f092b0e67fc52c2ec509edd7987dc19ac599e2e7d57d99788a44a22f8a22"), looks := false }, kinds := [], alts := [], laidByText := true, laidKinds := [.data], laidTests := true, laidLooks := .later }
def EtaTellsUptoCardSaid : Prop := Claim7.holds Tryd.pinned (.plain (OpenSpec.upto etaTellsSpec)) etaTellsUptoCard

/-- THE SECOND FORM's CARD OF 'hoistwaylaw41.AimTells'. -/
def aimTellsUptoCard : Claim7 := { stood := { row := aimTellsUptoRow, standIns := [], harness := (true, "3a47f092b0e67fc52c2ec509edd7987dc19ac599e2e7d57d99788a44a22f8a22"), looks := false }, kinds := [], alts := [], laidByText := true, laidKinds := [.data], laidTests := true, laidLooks := .later }
def AimTellsUptoCardSaid : Prop := Claim7.holds Tryd.pinned (.plain (OpenSpec.upto aimTellsSpec)) aimTellsUptoCard
end Rows
end Go.Proofs.YtbjcigkakeffmaaDoor
