/-
  DERIVED. GIVEN WITH THE SEED: THE CARDS: each row of YtkoepjacpjhmcaiDoorRows.lean that lists a variable, with what it lists TIED to the program's text (the seventh form; the later family's looks); each row that meets fmt, with fmt's text TOLD by the authors' own Lean function (tested against real Go, not proved from fmt's source: count such statements apart). THE CARD IS WHAT COUNTS. Prove the row's statement (the work); the ties are given (YtkoepjacpjhmcaiDoorTie.lean); close each card by the builder's one call (the guide's Derived/Test/ToyasCard.lean, 'card_holds'). Laid BY PROGRAM, IN A SANDBOX (cutbox-door.mjs). By AI agents, Wed Nov 11 2026. No macro, syntax, notation, axiom, sorry.
-/
import Derived.Test.YtkoepjacpjhmcaiDoorRows
import GoSem.ClaimSeven
namespace Go.Proofs.YtkoepjacpjhmcaiDoor
namespace Rows

/-- THE TIED CARD OF 'paritylaw4.PlaceAll'. -/
def placeAllCard : Claim7 := { stood := { row := placeAllRow, standIns := [], harness := (true, "d08cf8de092a5c0b685fdedae450450af7810ac6fb8299f98c87c51f61a37c70"), looks := true }, kinds := [], alts := [], laidByText := true, laidKinds := [.handle], laidTests := true, laidLooks := .later }
def PlaceAllCardSaid : Prop := Claim7.holds Tryd.pinned (.plain (OpenSpec.ofChange placeAllSpec)) placeAllCard

/-- THE SECOND FORM's CARD OF 'paritylaw4.PlaceAll'. -/
def placeAllUptoCard : Claim7 := { stood := { row := placeAllUptoRow, standIns := [], harness := (true, "d08cf8de092a5c0b685fdedae450450af7810ac6fb8299f98c87c51f61a37c70"), looks := true }, kinds := [], alts := [], laidByText := true, laidKinds := [.handle], laidTests := true, laidLooks := .later }
def PlaceAllUptoCardSaid : Prop := Claim7.holds Tryd.pinned (.plain (OpenSpec.upto placeAllSpec)) placeAllUptoCard
end Rows
end Go.Proofs.YtkoepjacpjhmcaiDoor
