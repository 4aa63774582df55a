/-
  DERIVED. GIVEN WITH THE SEED: THE CARDS: each row of YtfeikmmojilmbaaDoorRows.lean that lists a variable, with what it lists TIED to the program's text (the seventh form; the later family's looks); each row that meets fmt, with fmt's text TOLD by the authors' own Lean function (tested against real Go, not proved from fmt's source: count such statements apart). THE CARD IS WHAT COUNTS. Prove the row's statement (the work); the ties are given (YtfeikmmojilmbaaDoorTie.lean); close each card by the builder's one call (the guide's Derived/Test/ToyasCard.lean, 'card_holds'). Laid BY PROGRAM, IN A SANDBOX (cutbox-door.mjs). By AI agents, Wed Nov 11 2026. No macro, syntax, notation, axiom, sorry.
-/
import Derived.Test.YtfeikmmojilmbaaDoorRows
import GoSem.ClaimSeven
namespace Go.Proofs.YtfeikmmojilmbaaDoor
namespace Rows

/-- THE TIED CARD OF 'paritylaw2.CachePlays'. -/
def cachePlaysCard : Claim7 := { stood := { row := cachePlaysRow, standIns := [], harness := (true, "20785a117a4698425a4461160ec0495a98a537fe8204afbf0835f2264a453c2a"), looks := true }, kinds := [], alts := [], laidByText := true, laidKinds := [.handle], laidTests := true, laidLooks := .later }
def CachePlaysCardSaid : Prop := Claim7.holds Tryd.pinned (.plain (OpenSpec.ofChange cachePlaysSpec)) cachePlaysCard

/-- THE TIED CARD OF 'paritylaw2.ReservePlays'. -/
def reservePlaysCard : Claim7 := { stood := { row := reservePlaysRow, standIns := [], harness := (true, "20785a117a4698425a4461160ec0495a98a537fe8204afbf0835f2264a453c2a"), looks := true }, kinds := [], alts := [], laidByText := true, laidKinds := [.handle], laidTests := true, laidLooks := .later }
def ReservePlaysCardSaid : Prop := Claim7.holds Tryd.pinned (.plain (OpenSpec.ofChange reservePlaysSpec)) reservePlaysCard

/-- THE SECOND FORM's CARD OF 'paritylaw2.CachePlays'. -/
def cachePlaysUptoCard : Claim7 := { stood := { row := cachePlaysUptoRow, standIns := [], harness := (true, "20785a117a4698425a4461160ec0495a98a537fe8204afbf0835f2264a453c2a"), looks := true }, kinds := [], alts := [], laidByText := true, laidKinds := [.handle], laidTests := true, laidLooks := .later }
def CachePlaysUptoCardSaid : Prop := Claim7.holds Tryd.pinned (.plain (OpenSpec.upto cachePlaysSpec)) cachePlaysUptoCard

/-- THE SECOND FORM's CARD OF 'paritylaw2.ReservePlays'. -/
def reservePlaysUptoCard : Claim7 := { stood := { row := reservePlaysUptoRow, standIns := [], harness := (true, "20785a117a4698425a4461160ec0495a98a537fe8204afbf0835f2264a453c2a"), looks := true }, kinds := [], alts := [], laidByText := true, laidKinds := [.handle], laidTests := true, laidLooks := .later }
def ReservePlaysUptoCardSaid : Prop := Claim7.holds Tryd.pinned (.plain (OpenSpec.upto reservePlaysSpec)) reservePlaysUptoCard
end Rows
end Go.Proofs.YtfeikmmojilmbaaDoor
