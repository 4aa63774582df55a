/-
  DERIVED. GIVEN WITH THE SEED: THE CARDS: each row of YtjlfaoemejaphadDoorRows.lean that lists a variable, with what it lists TIED to the program's text (the seventh form; the later family's looks); each row that meets fmt, with fmt's text TOLD by the authors' own Lean function (tested against real Go, not proved from fmt's source: count such statements apart). THE CARD IS WHAT COUNTS. Prove the row's statement (the work); the ties are given (YtjlfaoemejaphadDoorTie.lean); close each card by the builder's one call (the guide's Derived/Test/ToyasCard.lean, 'card_holds'). Laid BY PROGRAM, IN A SANDBOX (cutbox-door.mjs). By AI agents, Wed Nov 11 2026. No macro, syntax, notation, axiom, sorry.
-/
import Derived.Test.YtjlfaoemejaphadDoorRows
import GoSem.ClaimSeven
namespace Go.Proofs.YtjlfaoemejaphadDoor
namespace Rows

/-- THE TIED CARD OF 'paritylaw4.LayoutRound'. -/
def layoutRoundCard : Claim7 := { stood := { row := layoutRoundRow, standIns := [], harness := (true, "d8ce9533ce897b01105e74dcdee0913801e8bb1178c5125216a7298344b6776b"), looks := true }, kinds := [], alts := [], laidByText := true, laidKinds := [.handle], laidTests := true, laidLooks := .later }
def LayoutRoundCardSaid : Prop := Claim7.holds Tryd.pinned (.plain (OpenSpec.ofChange layoutRoundSpec)) layoutRoundCard

/-- THE SECOND FORM's CARD OF 'paritylaw4.LayoutRound'. -/
def layoutRoundUptoCard : Claim7 := { stood := { row := layoutRoundUptoRow, standIns := [], harness := (true, "d8ce9533ce897b01105e74dcdee0913801e8bb1178c5125216a7298344b6776b"), looks := true }, kinds := [], alts := [], laidByText := true, laidKinds := [.handle], laidTests := true, laidLooks := .later }
def LayoutRoundUptoCardSaid : Prop := Claim7.holds Tryd.pinned (.plain (OpenSpec.upto layoutRoundSpec)) layoutRoundUptoCard
end Rows
end Go.Proofs.YtjlfaoemejaphadDoor
