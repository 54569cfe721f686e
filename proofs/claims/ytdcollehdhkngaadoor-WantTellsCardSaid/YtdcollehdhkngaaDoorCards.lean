/-
  DERIVED. GIVEN WITH THE SEED: THE CARDS: each row of YtdcollehdhkngaaDoorRows.lean that lists a variable, with what it lists TIED to the program's text (the seventh form; the later family's looks); each row that meets fmt, with fmt's text TOLD by the authors' own Lean function (tested against real Go, not proved from fmt's source: count such statements apart). THE CARD IS WHAT COUNTS. Prove the row's statement (the work); the ties are given (YtdcollehdhkngaaDoorTie.lean); close each card by the builder's one call (the guide's Derived/Test/ToyasCard.lean, 'card_holds'). Laid BY PROGRAM, IN A SANDBOX (cutbox-door.mjs). By AI agents, Wed Nov 11 2026. No macro, syntax, notation, axiom, sorry.
-/
import Derived.Test.YtdcollehdhkngaaDoorRows
import GoSem.ClaimSeven
namespace Go.Proofs.YtdcollehdhkngaaDoor
namespace Rows

/-- THE TIED CARD OF 'hoistwaylaw03.BitsTell'. -/
def bitsTellCard : Claim7 := { stood := { row := bitsTellRow, standIns := [], harness := (true, "915a8408c2b6c6de93bf8a0d755dee07f3a35fae0e96a8f4314b17e59a0f17ef"), looks := false }, kinds := [], alts := [], laidByText := true, laidKinds := [.data], laidTests := true, laidLooks := .later }
def BitsTellCardSaid : Prop := Claim7.holds Tryd.pinned (.plain (OpenSpec.ofChange bitsTellSpec)) bitsTellCard

/-- THE TIED CARD OF 'hoistwaylaw03.BitsSets'. -/
def bitsSetsCard : Claim7 := { stood := { row := bitsSetsRow, standIns := [], harness := (true, "915a8408c2b6c6de93bf8a0d755dee07f3a35fae0e96a8f4314b17e59a0f17ef"), looks := false }, kinds := [], alts := [], laidByText := true, laidKinds := [.data], laidTests := true, laidLooks := .later }
def BitsSetsCardSaid : Prop := Claim7.holds Tryd.pinned (.plain (OpenSpec.ofChange bitsSetsSpec)) bitsSetsCard

/-- THE TIED CARD OF 'hoistwaylaw03.BitsOrder'. -/
def bitsOrderCard : Claim7 := { stood := { row := bitsOrderRow, standIns := [], harness := (true, "915a8408c2b6c6de93bf8a0d755dee07f3a35fae0e96a8f4314b17e59a0f17ef"), looks := false }, kinds := [], alts := [], laidByText := true, laidKinds := [.data], laidTests := true, laidLooks := .later }
def BitsOrderCardSaid : Prop := Claim7.holds Tryd.pinned (.plain (OpenSpec.ofChange bitsOrderSpec)) bitsOrderCard

/-- THE TIED CARD OF 'hoistwaylaw30.WantTells'. -/
def wantTellsCard : Claim7 := { stood := { row := wantTellsRow, standIns := [], harness := (true, "915a8408c2b6c6de93bf8a0d755dee07f3a35fae0e96a8f4314b17e59a0f17ef"), looks := false }, kinds := [], alts := [], laidByText := true, laidKinds := [.data], laidTests := true, laidLooks := .later }
def WantTellsCardSaid : Prop := Claim7.holds Tryd.pinned (.plain (OpenSpec.ofChange wantTellsSpec)) wantTellsCard

/-- THE TIED CARD OF 'hoistwaylaw30.WantBeyond'. -/
def wantBeyondCard : Claim7 := { stood := { row := wantBeyondRow, standIns := [], harness := (true, "915a8408c2b6c6de93bf8a0d755dee07f3a35fae0e96a8f4314b17e59a0f17ef"), looks := false }, kinds := [], alts := [], laidByText := true, laidKinds := [.data], laidTests := true, laidLooks := .later }
def WantBeyondCardSaid : Prop := Claim7.holds Tryd.pinned (.plain (OpenSpec.ofChange wantBeyondSpec)) wantBeyondCard

/-- THE TIED CARD OF 'hoistwaylaw34.EtaLeast'. -/
def etaLeastCard : Claim7 := { stood := { row := etaLeastRow, standIns := [], harness := (true, "915a8408c2b6c6de93bf8a0d755dee07f3a35fae0e96a8f4314b17e59a0f17ef"), looks := false }, kinds := [], alts := [], laidByText := true, laidKinds := [.data], laidTests := true, laidLooks := .later }
def EtaLeastCardSaid : Prop := Claim7.holds Tryd.pinned (.plain (OpenSpec.ofChange etaLeastSpec)) etaLeastCard

/-- THE TIED CARD OF 'hoistwaylaw34.EtaTells'. -/
def etaTellsCard : Claim7 := { stood := { row := etaTellsRow, standIns := [], harness := (true, "915a8408c2b6c6de93bf8a0d755dee07f3a35fae0e96a8f4314b17e59a0f17ef"), looks := false }, kinds := [], alts := [], laidByText := true, laidKinds := [.data], laidTests := true, laidLooks := .later }
def EtaTellsCardSaid : Prop := Claim7.holds Tryd.pinned (.plain (OpenSpec.ofChange etaTellsSpec)) etaTellsCard

/-- THE TIED CARD OF 'hoistwaylaw41.AimTells'. -/
def aimTellsCard : Claim7 := { stood := { row := aimTellsRow, standIns := [], harness := (true, "915a8408c2b6c6de93bf8a0d755dee07f3a35fae0e96a8f4314b17e59a0f17ef"), looks := false }, kinds := [], alts := [], laidByText := true, laidKinds := [.data], laidTests := true, laidLooks := .later }
def AimTellsCardSaid : Prop := Claim7.holds Tryd.pinned (.plain (OpenSpec.ofChange aimTellsSpec)) aimTellsCard

/-- THE SECOND FORM's CARD OF 'hoistwaylaw03.BitsTell'. -/
def bitsTellUptoCard : Claim7 := { stood := { row := bitsTellUptoRow, standIns := [], harness := (true, "915a8408c2b6c6de93bf8a0d755dee07f3a35fae0e96a8f4314b17e59a0f17ef"), looks := false }, kinds := [], alts := [], laidByText := true, laidKinds := [.data], laidTests := true, laidLooks := .later }
def BitsTellUptoCardSaid : Prop := Claim7.holds Tryd.pinned (.plain (OpenSpec.upto bitsTellSpec)) bitsTellUptoCard

/-- THE SECOND FORM's CARD OF 'hoistwaylaw03.BitsSets'. -/
def bitsSetsUptoCard : Claim7 := { stood := { row := bitsSetsUptoRow, standIns := [], harness := (true, "915a8408c2b6c6de93bf8a0d755dee07f3a35fae0e96a8f4314b17e59a0f17ef"), looks := false }, kinds := [], alts := [], laidByText := true, laidKinds := [.data], laidTests := true, laidLooks := .later }
def BitsSetsUptoCardSaid : Prop := Claim7.holds Tryd.pinned (.plain (OpenSpec.upto bitsSetsSpec)) bitsSetsUptoCard

/-- THE SECOND FORM's CARD OF 'hoistwaylaw03.BitsOrder'. -/
def bitsOrderUptoCard : Claim7 := { stood := { row := bitsOrderUptoRow, standIns := [], harness := (true, "915a8408c2b6c6de93bf8a0d755dee07f3a35fae0e96a8f4314b17e59a0f17ef"), looks := false }, kinds := [], alts := [], laidByText := true, laidKinds := [.data], laidTests := true, laidLooks := .later }
def BitsOrderUptoCardSaid : Prop := Claim7.holds Tryd.pinned (.plain (OpenSpec.upto bitsOrderSpec)) bitsOrderUptoCard

/-- THE SECOND FORM's CARD OF 'hoistwaylaw30.WantTells'. -/
def wantTellsUptoCard : Claim7 := { stood := { row := wantTellsUptoRow, standIns := [], harness := (true, "915a8408c2b6c6de93bf8a0d755dee07f3a35fae0e96a8f4314b17e59a0f17ef"), looks := false }, kinds := [], alts := [], laidByText := true, laidKinds := [.data], laidTests := true, laidLooks := .later }
def WantTellsUptoCardSaid : Prop := Claim7.holds Tryd.pinned (.plain (OpenSpec.upto wantTellsSpec)) wantTellsUptoCard

/-- THE SECOND FORM's CARD OF 'hoistwaylaw30.WantBeyond'. -/
def wantBeyondUptoCard : Claim7 := { stood := { row := wantBeyondUptoRow, standIns := [], harness := (true, "915a8408c2b6c6de93bf8a0d755dee07f3a35fae0e96a8f4314b17e59a0f17ef"), looks := false }, kinds := [], alts := [], laidByText := true, laidKinds := [.data], laidTests := true, laidLooks := .later }
def WantBeyondUptoCardSaid : Prop := Claim7.holds Tryd.pinned (.plain (OpenSpec.upto wantBeyondSpec)) wantBeyondUptoCard

/-- THE SECOND FORM's CARD OF 'hoistwaylaw34.EtaLeast'. -/
def etaLeastUptoCard : Claim7 := { stood := { row := etaLeastUptoRow, standIns := [], harness := (true, "915a8408c2b6c6de93bf8a0d755dee07f3a35fae0e96a8f4314b17e59a0f17ef"), looks := false }, kinds := [], alts := [], laidByText := true, laidKinds := [.data], laidTests := true, laidLooks := .later }
def EtaLeastUptoCardSaid : Prop := Claim7.holds Tryd.pinned (.plain (OpenSpec.upto etaLeastSpec)) etaLeastUptoCard

/-- THE SECOND FORM's CARD OF 'hoistwaylaw34.EtaTells'. -/
def etaTellsUptoCard : Claim7 := { stood := { row := etaTellsUptoRow, standIns := [], harness := (true, "915a8408c2b6c6de93bf8a0d755dee07f3a35fae0e96a8f4314b17e59a0f17ef"), looks := false }, kinds := [], alts := [], laidByText := true, laidKinds := [.data], laidTests := true, laidLooks := .later }
def EtaTellsUptoCardSaid : Prop := Claim7.holds Tryd.pinned (.plain (OpenSpec.upto etaTellsSpec)) etaTellsUptoCard

/-- THE SECOND FORM's CARD OF 'hoistwaylaw41.AimTells'. -/
def aimTellsUptoCard : Claim7 := { stood := { row := aimTellsUptoRow, standIns := [], harness := (true, "915a8408c2b6c6de93bf8a0d755dee07f3a35fae0e96a8f4314b17e59a0f17ef"), looks := false }, kinds := [], alts := [], laidByText := true, laidKinds := [.data], laidTests := true, laidLooks := .later }
def AimTellsUptoCardSaid : Prop := Claim7.holds Tryd.pinned (.plain (OpenSpec.upto aimTellsSpec)) aimTellsUptoCard
end Rows
end Go.Proofs.YtdcollehdhkngaaDoor
