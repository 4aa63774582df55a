/-
  DERIVED. GIVEN WITH THE SEED: THE CARDS: each row of YtkkpnnhmgbdmgaiDoorRows.lean that lists a variable, with what it lists TIED to the program's text (the seventh form; the later family's looks); each row that meets fmt, with fmt's text TOLD by the authors' own Lean function (tested against real Go, not proved from fmt's source: count such statements apart). THE CARD IS WHAT COUNTS. Prove the row's statement (the work); the ties are given (YtkkpnnhmgbdmgaiDoorTie.lean); close each card by the builder's one call (the guide's Derived/Test/ToyasCard.lean, 'card_holds'). Laid BY PROGRAM, IN A SANDBOX (cutbox-door.mjs). By AI agents, Wed Nov 11 2026. No macro, syntax, notation, axiom, sorry.
-/
import Derived.Test.YtkkpnnhmgbdmgaiDoorRows
import GoSem.ClaimSeven
namespace Go.Proofs.YtkkpnnhmgbdmgaiDoor
namespace Rows

/-- THE TIED CARD OF 'paritylaw4.PlaceAll'. -/
def placeAllCard : Claim7 := { stood := { row := placeAllRow, standIns := [], harness := (true, "8c5a93208ab4ceb7d601a9721a7f89c2205cd587efe358c634b4a20cd2df4f65"), looks := true }, kinds := [], alts := [], laidByText := true, laidKinds := [.handle], laidTests := true, laidLooks := .later }
def PlaceAllCardSaid : Prop := Claim7.holds Tryd.pinned (.plain (OpenSpec.ofChange placeAllSpec)) placeAllCard

/-- THE TIED CARD OF 'paritylaw3.GrowKeeps'. -/
def growKeepsCard : Claim7 := { stood := { row := growKeepsRow, standIns := [], harness := (true, "8c5a93208ab4ceb7d601a9721a7f89c2205cd587efe358c634b4a20cd2df4f65"), looks := true }, kinds := [], alts := [], laidByText := true, laidKinds := [.handle], laidTests := true, laidLooks := .later }
def GrowKeepsCardSaid : Prop := Claim7.holds Tryd.pinned (.plain (OpenSpec.ofChange growKeepsSpec)) growKeepsCard

/-- THE TIED CARD OF 'paritylaw3.GrowPlays'. -/
def growPlaysCard : Claim7 := { stood := { row := growPlaysRow, standIns := [], harness := (true, "8c5a93208ab4ceb7d601a9721a7f89c2205cd587efe358c634b4a20cd2df4f65"), looks := true }, kinds := [], alts := [], laidByText := true, laidKinds := [.handle], laidTests := true, laidLooks := .later }
def GrowPlaysCardSaid : Prop := Claim7.holds Tryd.pinned (.plain (OpenSpec.ofChange growPlaysSpec)) growPlaysCard

/-- THE SECOND FORM's CARD OF 'paritylaw4.PlaceAll'. -/
def placeAllUptoCard : Claim7 := { stood := { row := placeAllUptoRow, standIns := [], harness := (true, "8c5a93208ab4ceb7d601a9721a7f89c2205cd587efe358c634b4a20cd2df4f65"), looks := true }, kinds := [], alts := [], laidByText := true, laidKinds := [.handle], laidTests := true, laidLooks := .later }
def PlaceAllUptoCardSaid : Prop := Claim7.holds Tryd.pinned (.plain (OpenSpec.upto placeAllSpec)) placeAllUptoCard

/-- THE SECOND FORM's CARD OF 'paritylaw3.GrowKeeps'. -/
def growKeepsUptoCard : Claim7 := { stood := { row := growKeepsUptoRow, standIns := [], harness := (true, "8c5a93208ab4ceb7d601a9721a7f89c2205cd587efe358c634b4a20cd2df4f65"), looks := true }, kinds := [], alts := [], laidByText := true, laidKinds := [.handle], laidTests := true, laidLooks := .later }
def GrowKeepsUptoCardSaid : Prop := Claim7.holds Tryd.pinned (.plain (OpenSpec.upto growKeepsSpec)) growKeepsUptoCard

/-- THE SECOND FORM's CARD OF 'paritylaw3.GrowPlays'. -/
def growPlaysUptoCard : Claim7 := { stood := { row := growPlaysUptoRow, standIns := [], harness := (true, "8c5a93208ab4ceb7d601a9721a7f89c2205cd587efe358c634b4a20cd2df4f65"), looks := true }, kinds := [], alts := [], laidByText := true, laidKinds := [.handle], laidTests := true, laidLooks := .later }
def GrowPlaysUptoCardSaid : Prop := Claim7.holds Tryd.pinned (.plain (OpenSpec.upto growPlaysSpec)) growPlaysUptoCard
end Rows
end Go.Proofs.YtkkpnnhmgbdmgaiDoor
