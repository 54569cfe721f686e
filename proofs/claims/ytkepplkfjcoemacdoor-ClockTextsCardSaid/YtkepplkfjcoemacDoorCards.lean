/-
  DERIVED. GIVEN WITH THE SEED: THE CARDS: each row of YtkepplkfjcoemacDoorRows.lean that lists a variable, with what it lists TIED to the program's text (the seventh form; the later family's looks); each row that meets fmt, with fmt's text TOLD by the authors' own Lean function (tested against real Go, not proved from fmt's source: count such statements apart). THE CARD IS WHAT COUNTS. Prove the row's statement (the work); the ties are given (YtkepplkfjcoemacDoorTie.lean); close each card by the builder's one call (the guide's Derived/Test/ToyasCard.lean, 'card_holds'). Laid BY PROGRAM, IN A SANDBOX (cutbox-door.mjs). By AI agents, Wed Nov 11 2026. No macro, syntax, notation, axiom, sorry.
-/
import Derived.Test.YtkepplkfjcoemacDoorRows
import GoSem.ClaimSeven
namespace Go.Proofs.YtkepplkfjcoemacDoor
namespace Rows

/-- THE TIED CARD OF 'hoistwaylaw16.ColsLay'. -/
def colsLayCard : Claim7 := { stood := { row := colsLayRow, standIns := [], harness := (true, "c3a0653e39c52c3c6e28309318aca9279c8fc05b2d31f92b21883f1dd4a9d875"), looks := false }, kinds := [], alts := [], laidByText := true, laidKinds := [.data, .pinned], laidTests := true, laidLooks := .later }
def ColsLayCardSaid : Prop := Claim7.holds Tryd.pinned (.plain (OpenSpec.ofChange colsLaySpec)) colsLayCard

/-- THE TIED CARD OF 'hoistwaylaw16.ColsBack'. -/
def colsBackCard : Claim7 := { stood := { row := colsBackRow, standIns := [], harness := (true, "c3a0653e39c52c3c6e28309318aca9279c8fc05b2d31f92b21883f1dd4a9d875"), looks := false }, kinds := [], alts := [], laidByText := true, laidKinds := [.data, .pinned], laidTests := true, laidLooks := .later }
def ColsBackCardSaid : Prop := Claim7.holds Tryd.pinned (.plain (OpenSpec.ofChange colsBackSpec)) colsBackCard

/-- THE TIED CARD OF 'hoistwaylaw52.ClockTexts'. -/
def clockTextsCard : Claim7 := { stood := { row := clockTextsRow, standIns := [], harness := (true, "c3a0653e39c52c3c6e28309318aca9279c8fc05b2d31f92b21883f1dd4a9d875"), looks := false }, kinds := [], alts := [], laidByText := true, laidKinds := [.data, .data, .data], laidTests := true, laidLooks := .later }
def ClockTextsCardSaid : Prop := Claim7.holds Tryd.pinned (.plain (OpenSpec.ofChange clockTextsSpec)) clockTextsCard

/-- THE TIED CARD OF 'hoistwaylaw52.ClockReads'. -/
def clockReadsCard : Claim7 := { stood := { row := clockReadsRow, standIns := [], harness := (true, "c3a0653e39c52c3c6e28309318aca9279c8fc05b2d31f92b21883f1dd4a9d875"), looks := false }, kinds := [], alts := [], laidByText := true, laidKinds := [.data, .data, .data], laidTests := true, laidLooks := .later }
def ClockReadsCardSaid : Prop := Claim7.holds Tryd.pinned (.plain (OpenSpec.ofChange clockReadsSpec)) clockReadsCard

/-- THE TIED CARD OF 'hoistwaylaw52.ClockBack'. -/
def clockBackCard : Claim7 := { stood := { row := clockBackRow, standIns := [], harness := (true, "c3a0653e39c52c3c6e28309318aca9279c8fc05b2d31f92b21883f1dd4a9d875"), looks := false }, kinds := [], alts := [], laidByText := true, laidKinds := [.data, .data, .data], laidTests := true, laidLooks := .later }
def ClockBackCardSaid : Prop := Claim7.holds Tryd.pinned (.plain (OpenSpec.ofChange clockBackSpec)) clockBackCard

/-- THE SECOND FORM's CARD OF 'hoistwaylaw16.ColsLay'. -/
def colsLayUptoCard : Claim7 := { stood := { row := colsLayUptoRow, standIns := [], harness := (true, "c3a0653e39c52c3c6e28309318aca9279c8fc05b2d31f92b21883f1dd4a9d875"), looks := false }, kinds := [], alts := [], laidByText := true, laidKinds := [.data, .pinned], laidTests := true, laidLooks := .later }
def ColsLayUptoCardSaid : Prop := Claim7.holds Tryd.pinned (.plain (OpenSpec.upto colsLaySpec)) colsLayUptoCard

/-- THE SECOND FORM's CARD OF 'hoistwaylaw16.ColsBack'. -/
def colsBackUptoCard : Claim7 := { stood := { row := colsBackUptoRow, standIns := [], harness := (true, "c3a0653e39c52c3c6e28309318aca9279c8fc05b2d31f92b21883f1dd4a9d875"), looks := false }, kinds := [], alts := [], laidByText := true, laidKinds := [.data, .pinned], laidTests := true, laidLooks := .later }
def ColsBackUptoCardSaid : Prop := Claim7.holds Tryd.pinned (.plain (OpenSpec.upto colsBackSpec)) colsBackUptoCard

/-- THE SECOND FORM's CARD OF 'hoistwaylaw52.ClockTexts'. -/
def clockTextsUptoCard : Claim7 := { stood := { row := clockTextsUptoRow, standIns := [], harness := (true, "c3a0653e39c52c3c6e28309318aca9279c8fc05b2d31f92b21883f1dd4a9d875"), looks := false }, kinds := [], alts := [], laidByText := true, laidKinds := [.data, .data, .data], laidTests := true, laidLooks := .later }
def ClockTextsUptoCardSaid : Prop := Claim7.holds Tryd.pinned (.plain (OpenSpec.upto clockTextsSpec)) clockTextsUptoCard

/-- THE SECOND FORM's CARD OF 'hoistwaylaw52.ClockReads'. -/
def clockReadsUptoCard : Claim7 := { stood := { row := clockReadsUptoRow, standIns := [], harness := (true, "c3a0653e39c52c3c6e28309318aca9279c8fc05b2d31f92b21883f1dd4a9d875"), looks := false }, kinds := [], alts := [], laidByText := true, laidKinds := [.data, .data, .data], laidTests := true, laidLooks := .later }
def ClockReadsUptoCardSaid : Prop := Claim7.holds Tryd.pinned (.plain (OpenSpec.upto clockReadsSpec)) clockReadsUptoCard

/-- THE SECOND FORM's CARD OF 'hoistwaylaw52.ClockBack'. -/
def clockBackUptoCard : Claim7 := { stood := { row := clockBackUptoRow, standIns := [], harness := (true, "c3a0653e39c52c3c6e28309318aca9279c8fc05b2d31f92b21883f1dd4a9d875"), looks := false }, kinds := [], alts := [], laidByText := true, laidKinds := [.data, .data, .data], laidTests := true, laidLooks := .later }
def ClockBackUptoCardSaid : Prop := Claim7.holds Tryd.pinned (.plain (OpenSpec.upto clockBackSpec)) clockBackUptoCard
end Rows
end Go.Proofs.YtkepplkfjcoemacDoor
