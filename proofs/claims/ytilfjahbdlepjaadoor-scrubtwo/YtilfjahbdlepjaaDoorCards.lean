/-
  DERIVED. GIVEN WITH THE SEED: THE CARDS: each row of YtilfjahbdlepjaaDoorRows.lean that lists a variable, with what it lists TIED to the program's text (the seventh form; the later family's looks); each row that meets fmt, with fmt's text TOLD by the authors' own Lean function (tested against real Go, not proved from fmt's source: count such statements apart). THE CARD IS WHAT COUNTS. Prove the row's statement (the work); the ties are given (YtilfjahbdlepjaaDoorTie.lean); close each card by the builder's one call (the guide's Derived/Test/ToyasCard.lean, 'card_holds'). Laid BY PROGRAM, IN A SANDBOX (cutbox-door.mjs). By AI agents, Wed Nov 11 2026. No macro, syntax, notation, axiom, sorry.
-/
import Derived.Test.YtilfjahbdlepjaaDoorRows
import GoSem.ClaimSeven
namespace Go.Proofs.YtilfjahbdlepjaaDoor
namespace Rows

/-- THE TIED CARD OF 'paritylaw4.ArrayRebuilds'. -/
def arrayRebuildsCard : Claim7 := { stood := { row := arrayRebuildsRow, standIns := [], harness := (true, "32a84e70499c86e74d8308c79e2f71a4e1305f06baf86c8264e9362bf6154841"), looks := true }, kinds := [], alts := [], laidByText := true, laidKinds := [.handle], laidTests := true, laidLooks := .later }
def ArrayRebuildsCardSaid : Prop := Claim7.holds Tryd.pinned (.plain (OpenSpec.ofChange arrayRebuildsSpec)) arrayRebuildsCard

/-- THE TIED CARD OF 'paritylaw4.ScrubTwo'. -/
def scrubTwoCard : Claim7 := { stood := { row := scrubTwoRow, standIns := [], harness := (true, "32a84e70499c86e74d8308c79e2f71a4e1305f06baf86c8264e9362bf6154841"), looks := true }, kinds := [], alts := [], laidByText := true, laidKinds := [.handle], laidTests := true, laidLooks := .later }
def ScrubTwoCardSaid : Prop := Claim7.holds Tryd.pinned (.plain (OpenSpec.ofChange scrubTwoSpec)) scrubTwoCard

/-- THE SECOND FORM's CARD OF 'paritylaw4.ArrayRebuilds'. -/
def arrayRebuildsUptoCard : Claim7 := { stood := { row := arrayRebuildsUptoRow, standIns := [], harness := (true, "32a84e70499c86e74d8308c79e2f71a4e1305f06baf86c8264e9362bf6154841"), looks := true }, kinds := [], alts := [], laidByText := true, laidKinds := [.handle], laidTests := true, laidLooks := .later }
def ArrayRebuildsUptoCardSaid : Prop := Claim7.holds Tryd.pinned (.plain (OpenSpec.upto arrayRebuildsSpec)) arrayRebuildsUptoCard

/-- THE SECOND FORM's CARD OF 'paritylaw4.ScrubTwo'. -/
def scrubTwoUptoCard : Claim7 := { stood := { row := scrubTwoUptoRow, standIns := [], harness := (true, "32a84e70499c86e74d8308c79e2f71a4e1305f06baf86c8264e9362bf6154841"), looks := true }, kinds := [], alts := [], laidByText := true, laidKinds := [.handle], laidTests := true, laidLooks := .later }
def ScrubTwoUptoCardSaid : Prop := Claim7.holds Tryd.pinned (.plain (OpenSpec.upto scrubTwoSpec)) scrubTwoUptoCard
end Rows
end Go.Proofs.YtilfjahbdlepjaaDoor
