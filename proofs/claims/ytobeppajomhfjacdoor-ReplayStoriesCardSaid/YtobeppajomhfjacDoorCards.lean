/-
  DERIVED. GIVEN WITH THE SEED: THE CARDS: each row of YtobeppajomhfjacDoorRows.lean that lists a variable, with what it lists TIED to the program's text (the seventh form; the later family's looks); each row that meets fmt, with fmt's text TOLD by the authors' own Lean function (tested against real Go, not proved from fmt's source: count such statements apart). THE CARD IS WHAT COUNTS. Prove the row's statement (the work); the ties are given (YtobeppajomhfjacDoorTie.lean); close each card by the builder's one call (the guide's Derived/Test/ToyasCard.lean, 'card_holds'). Laid BY PROGRAM, IN A SANDBOX (cutbox-door.mjs). By AI agents, Wed Nov 11 2026. No macro, syntax, notation, axiom, sorry.
-/
import Derived.Test.YtobeppajomhfjacDoorRows
import GoSem.ClaimSeven
namespace Go.Proofs.YtobeppajomhfjacDoor
namespace Rows

/-- THE TIED CARD OF 'hoistwaylaw51.ReplayStories'. -/
def replayStoriesCard : Claim7 := { stood := { row := replayStoriesRow, standIns := [], harness := (true, "18ca93ba6fa73dd551623f4a9b2d68aa6f29b6371b8caedbcd2629573f3dac02"), looks := false }, kinds := [], alts := [], laidByText := true, laidKinds := [.data, .data, .data], laidTests := true, laidLooks := .later }
def ReplayStoriesCardSaid : Prop := Claim7.holds Tryd.pinned (.plain (OpenSpec.ofChange replayStoriesSpec)) replayStoriesCard

/-- THE SECOND FORM's CARD OF 'hoistwaylaw51.ReplayStories'. -/
def replayStoriesUptoCard : Claim7 := { stood := { row := replayStoriesUptoRow, standIns := [], harness := (true, "18ca93ba6fa73dd551623f4a9b2d68aa6f29b6371b8caedbcd2629573f3dac02"), looks := false }, kinds := [], alts := [], laidByText := true, laidKinds := [.data, .data, .data], laidTests := true, laidLooks := .later }
def ReplayStoriesUptoCardSaid : Prop := Claim7.holds Tryd.pinned (.plain (OpenSpec.upto replayStoriesSpec)) replayStoriesUptoCard
end Rows
end Go.Proofs.YtobeppajomhfjacDoor
