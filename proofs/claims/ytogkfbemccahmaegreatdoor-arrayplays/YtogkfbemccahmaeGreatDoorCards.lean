/-
  DERIVED. GIVEN WITH THE SEED: THE CARDS: each row of YtogkfbemccahmaeGreatDoorRows.lean that lists a variable, with what it lists TIED to the program's text (the seventh form; the later family's looks); each row that meets fmt, with fmt's text TOLD by the authors' own Lean function (tested against real Go, not proved from fmt's source: count such statements apart). THE CARD IS WHAT COUNTS. Prove the row's statement (the work); the ties are given (YtogkfbemccahmaeGreatDoorTie.lean); close each card by the builder's one call (the guide's Derived/Test/ToyasCard.lean, 'card_holds'). Laid BY PROGRAM, IN A SANDBOX (cutbox-door.mjs). By AI agents, Wed Nov 11 2026. No macro, syntax, notation, axiom, sorry.
-/
import Derived.Test.YtogkfbemccahmaeGreatDoorRows
import GoSem.ClaimSeven
namespace Go.Proofs.YtogkfbemccahmaeGreatDoor
namespace Rows

/-- THE TIED CARD OF 'paritylaw1.ArrayPlays'. -/
def arrayPlaysCard : Claim7 := { stood := { row := arrayPlaysRow, standIns := [], harness := (true, "b202574b2bb9e3eb5dc2caaa8c1c2a89b327d78ad2b5df57180de63cedf39b76"), looks := true }, kinds := [], alts := [], laidByText := true, laidKinds := [.handle], laidTests := true, laidLooks := .later }
def ArrayPlaysCardSaid : Prop := Claim7.holds Tryz.pinned (.plain (OpenSpec.ofChange arrayPlaysSpec)) arrayPlaysCard

/-- THE SECOND FORM's CARD OF 'paritylaw1.ArrayPlays'. -/
def arrayPlaysUptoCard : Claim7 := { stood := { row := arrayPlaysUptoRow, standIns := [], harness := (true, "b202574b2bb9e3eb5dc2caaa8c1c2a89b327d78ad2b5df57180de63cedf39b76"), looks := true }, kinds := [], alts := [], laidByText := true, laidKinds := [.handle], laidTests := true, laidLooks := .later }
def ArrayPlaysUptoCardSaid : Prop := Claim7.holds Tryz.pinned (.plain (OpenSpec.upto arrayPlaysSpec)) arrayPlaysUptoCard
end Rows
end Go.Proofs.YtogkfbemccahmaeGreatDoor
