/-
  DERIVED. GIVEN WITH THE SEED: THE CARDS: each row of YtlckgdgmanmbhaaDoorRows.lean that lists a variable, with what it lists TIED to the program's text (the seventh form; the later family's looks); each row that meets fmt, with fmt's text TOLD by the authors' own Lean function (tested against real Go, not proved from fmt's source: count such statements apart). THE CARD IS WHAT COUNTS. Prove the row's statement (the work); the ties are given (YtlckgdgmanmbhaaDoorTie.lean); close each card by the builder's one call (the guide's Derived/Test/ToyasCard.lean, 'card_holds'). Laid BY PROGRAM, IN A SANDBOX (cutbox-door.mjs). By AI agents, Wed Nov 11 2026. No macro, syntax, notation, axiom, sorry.
-/
import Derived.Test.YtlckgdgmanmbhaaDoorRows
import GoSem.ClaimSeven
namespace Go.Proofs.YtlckgdgmanmbhaaDoor
namespace Rows

/-- THE TIED CARD OF 'hoistwaylaw52.ClockReads'. -/
def clockReadsCard : Claim7 := { stood := { row := clockReadsRow, standIns := [], harness := (true, "0d0d9f7543757cc2368e4d47e143f5a01c0012227cdb714eca7e9745870d6277"), looks := false }, kinds := [], alts := [], laidByText := true, laidKinds := [.data, .data, .data], laidTests := true, laidLooks := .later }
def ClockReadsCardSaid : Prop := Claim7.holds Tryd.pinned (.plain (OpenSpec.ofChange clockReadsSpec)) clockReadsCard

/-- THE TIED CARD OF 'hoistwaylaw52.ClockBack'. -/
def clockBackCard : Claim7 := { stood := { row := clockBackRow, standIns := [], harness := (true, "0d0d9f7543757cc2368e4d47e143f5a01c0012227cdb714eca7e9745870d6277"), looks := false }, kinds := [], alts := [], laidByText := true, laidKinds := [.data, .data, .data], laidTests := true, laidLooks := .later }
def ClockBackCardSaid : Prop := Claim7.holds Tryd.pinned (.plain (OpenSpec.ofChange clockBackSpec)) clockBackCard

/-- THE TIED CARD OF 'hoistwaylaw51.ReplayTells'. -/
def replayTellsCard : Claim7 := { stood := { row := replayTellsRow, standIns := [], harness := (true, "0d0d9f7543757cc2368e4d47e143f5a01c0012227cdb714eca7e9745870d6277"), looks := false }, kinds := [], alts := [], laidByText := true, laidKinds := [.data, .data, .data], laidTests := true, laidLooks := .later }
def ReplayTellsCardSaid : Prop := Claim7.holds Tryd.pinned (.plain (OpenSpec.ofChange replayTellsSpec)) replayTellsCard

/-- THE SECOND FORM's CARD OF 'hoistwaylaw52.ClockReads'. -/
def clockReadsUptoCard : Claim7 := { stood := { row := clockReadsUptoRow, standIns := [], harness := (true, "0d0d9f7543757cc2368e4d47e143f5a01c0012227cdb714eca7e9745870d6277"), looks := false }, kinds := [], alts := [], laidByText := true, laidKinds := [.data, .data, .data], laidTests := true, laidLooks := .later }
def ClockReadsUptoCardSaid : Prop := Claim7.holds Tryd.pinned (.plain (OpenSpec.upto clockReadsSpec)) clockReadsUptoCard

/-- THE SECOND FORM's CARD OF 'hoistwaylaw52.ClockBack'. -/
def clockBackUptoCard : Claim7 := { stood := { row := clockBackUptoRow, standIns := [], harness := (true, "0d0d9f7543757cc2368e4d47e143f5a01c0012227cdb714eca7e9745870d6277"), looks := false }, kinds := [], alts := [], laidByText := true, laidKinds := [.data, .data, .data], laidTests := true, laidLooks := .later }
def ClockBackUptoCardSaid : Prop := Claim7.holds Tryd.pinned (.plain (OpenSpec.upto clockBackSpec)) clockBackUptoCard

/-- THE SECOND FORM's CARD OF 'hoistwaylaw51.ReplayTells'. -/
def replayTellsUptoCard : Claim7 := { stood := { row := replayTellsUptoRow, standIns := [], harness := (true, "0d0d9f7543757cc2368e4d47e143f5a01c0012227cdb714eca7e9745870d6277"), looks := false }, kinds := [], alts := [], laidByText := true, laidKinds := [.data, .data, .data], laidTests := true, laidLooks := .later }
def ReplayTellsUptoCardSaid : Prop := Claim7.holds Tryd.pinned (.plain (OpenSpec.upto replayTellsSpec)) replayTellsUptoCard
end Rows
end Go.Proofs.YtlckgdgmanmbhaaDoor
