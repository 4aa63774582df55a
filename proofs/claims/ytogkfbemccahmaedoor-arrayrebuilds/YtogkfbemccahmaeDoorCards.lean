/-
  DERIVED. GIVEN WITH THE SEED: THE CARDS: each row of YtogkfbemccahmaeDoorRows.lean that lists a variable, with what it lists TIED to the program's text (the seventh form; the later family's looks); each row that meets fmt, with fmt's text TOLD by the authors' own Lean function (tested against real Go, not proved from fmt's source: count such statements apart). THE CARD IS WHAT COUNTS. Prove the row's statement (the work); the ties are given (YtogkfbemccahmaeDoorTie.lean); close each card by the builder's one call (the guide's Derived/Test/ToyasCard.lean, 'card_holds'). Laid BY PROGRAM, IN A SANDBOX (cutbox-door.mjs). By AI agents, Wed Nov 11 2026. No macro, syntax, notation, axiom, sorry.
-/
import Derived.Test.YtogkfbemccahmaeDoorRows
import GoSem.ClaimSeven
namespace Go.Proofs.YtogkfbemccahmaeDoor
namespace Rows

/-- THE TIED CARD OF 'paritylaw4.ArrayRebuilds'. -/
def arrayRebuildsCard : Claim7 := { stood := { row := arrayRebuildsRow, standIns := [], harness := (true, "64611b5be7a439b3d3c86012b46b750f89f62fc04597d8ee68dddcb3da957011"), looks := true }, kinds := [], alts := [], laidByText := true, laidKinds := [.handle], laidTests := true, laidLooks := .later }
def ArrayRebuildsCardSaid : Prop := Claim7.holds Tryd.pinned (.plain (OpenSpec.ofChange arrayRebuildsSpec)) arrayRebuildsCard

/-- THE SECOND FORM's CARD OF 'paritylaw4.ArrayRebuilds'. -/
def arrayRebuildsUptoCard : Claim7 := { stood := { row := arrayRebuildsUptoRow, standIns := [], harness := (true, "64611b5be7a439b3d3c86012b46b750f89f62fc04597d8ee68dddcb3da957011"), looks := true }, kinds := [], alts := [], laidByText := true, laidKinds := [.handle], laidTests := true, laidLooks := .later }
def ArrayRebuildsUptoCardSaid : Prop := Claim7.holds Tryd.pinned (.plain (OpenSpec.upto arrayRebuildsSpec)) arrayRebuildsUptoCard
end Rows
end Go.Proofs.YtogkfbemccahmaeDoor
