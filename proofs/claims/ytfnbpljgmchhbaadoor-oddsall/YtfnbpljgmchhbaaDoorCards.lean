/-
  DERIVED. GIVEN WITH THE SEED: THE CARDS: each row of YtfnbpljgmchhbaaDoorRows.lean that lists a variable, with what it lists TIED to the program's text (the seventh form; the later family's looks); each row that meets fmt, with fmt's text TOLD by the authors' own Lean function (tested against real Go, not proved from fmt's source: count such statements apart). THE CARD IS WHAT COUNTS. Prove the row's statement (the work); the ties are given (YtfnbpljgmchhbaaDoorTie.lean); close each card by the builder's one call (the guide's Derived/Test/ToyasCard.lean, 'card_holds'). Laid BY PROGRAM, IN A SANDBOX (cutbox-door.mjs). By AI agents, Wed Nov 11 2026. No macro, syntax, notation, axiom, sorry.
-/
import Derived.Test.YtfnbpljgmchhbaaDoorRows
import GoSem.ClaimSeven
namespace Go.Proofs.YtfnbpljgmchhbaaDoor
namespace Rows

/-- THE TIED CARD OF 'paritylaw3.OddsTell'. -/
def oddsTellCard : Claim7 := { stood := { row := oddsTellRow, standIns := [], harness := (true, "d66e7c97eb5aeedcf715d76513ed9135c961eae14cf50905d23bee99d56bce33"), looks := true }, kinds := [], alts := [], laidByText := true, laidKinds := [.handle], laidTests := true, laidLooks := .later }
def OddsTellCardSaid : Prop := Claim7.holds Tryd.pinned (.plain (OpenSpec.ofChange oddsTellSpec)) oddsTellCard

/-- THE TIED CARD OF 'paritylaw4.OddsAll'. -/
def oddsAllCard : Claim7 := { stood := { row := oddsAllRow, standIns := [], harness := (true, "d66e7c97eb5aeedcf715d76513ed9135c961eae14cf50905d23bee99d56bce33"), looks := true }, kinds := [], alts := [], laidByText := true, laidKinds := [.handle], laidTests := true, laidLooks := .later }
def OddsAllCardSaid : Prop := Claim7.holds Tryd.pinned (.plain (OpenSpec.ofChange oddsAllSpec)) oddsAllCard

/-- THE SECOND FORM's CARD OF 'paritylaw3.OddsTell'. -/
def oddsTellUptoCard : Claim7 := { stood := { row := oddsTellUptoRow, standIns := [], harness := (true, "d66e7c97eb5aeedcf715d76513ed9135c961eae14cf50905d23bee99d56bce33"), looks := true }, kinds := [], alts := [], laidByText := true, laidKinds := [.handle], laidTests := true, laidLooks := .later }
def OddsTellUptoCardSaid : Prop := Claim7.holds Tryd.pinned (.plain (OpenSpec.upto oddsTellSpec)) oddsTellUptoCard

/-- THE SECOND FORM's CARD OF 'paritylaw4.OddsAll'. -/
def oddsAllUptoCard : Claim7 := { stood := { row := oddsAllUptoRow, standIns := [], harness := (true, "d66e7c97eb5aeedcf715d76513ed9135c961eae14cf50905d23bee99d56bce33"), looks := true }, kinds := [], alts := [], laidByText := true, laidKinds := [.handle], laidTests := true, laidLooks := .later }
def OddsAllUptoCardSaid : Prop := Claim7.holds Tryd.pinned (.plain (OpenSpec.upto oddsAllSpec)) oddsAllUptoCard
end Rows
end Go.Proofs.YtfnbpljgmchhbaaDoor
