/-
  DERIVED. GIVEN WITH THE SEED: THE CARDS: each row of YtlomcajabngnpacDoorRows.lean that lists a variable, with what it lists TIED to the program's text (the seventh form; the later family's looks); each row that meets fmt, with fmt's text TOLD by the authors' own Lean function (tested against real Go, not proved from fmt's source: count such statements apart). THE CARD IS WHAT COUNTS. Prove the row's statement (the work); the ties are given (YtlomcajabngnpacDoorTie.lean); close each card by the builder's one call (the guide's Derived/Test/ToyasCard.lean, 'card_holds'). Laid BY PROGRAM, IN A SANDBOX (cutbox-door.mjs). By AI agents, Wed Nov 11 2026. No macro, syntax, notation, axiom, sorry.
-/
import Derived.Test.YtlomcajabngnpacDoorRows
import GoSem.ClaimSeven
namespace Go.Proofs.YtlomcajabngnpacDoor
namespace Rows

/-- THE TIED CARD OF 'paritylaw1.CodeAny'. -/
def codeAnyCard : Claim7 := { stood := { row := codeAnyRow, standIns := [], harness := (true, "3bf6145e6fa954b730f9c3ef544cad6ae58204b870e3470e9433a5ba1af76384"), looks := true }, kinds := [], alts := [], laidByText := true, laidKinds := [.handle], laidTests := true, laidLooks := .later }
def CodeAnyCardSaid : Prop := Claim7.holds Tryd.pinned (.plain (OpenSpec.ofChange codeAnySpec)) codeAnyCard

/-- THE TIED CARD OF 'paritylaw1.PqTells'. -/
def pqTellsCard : Claim7 := { stood := { row := pqTellsRow, standIns := [], harness := (true, "3bf6145e6fa954b730f9c3ef544cad6ae58204b870e3470e9433a5ba1af76384"), looks := true }, kinds := [], alts := [], laidByText := true, laidKinds := [.handle], laidTests := true, laidLooks := .later }
def PqTellsCardSaid : Prop := Claim7.holds Tryd.pinned (.plain (OpenSpec.ofChange pqTellsSpec)) pqTellsCard

/-- THE TIED CARD OF 'paritylaw1.LayoutTells'. -/
def layoutTellsCard : Claim7 := { stood := { row := layoutTellsRow, standIns := [], harness := (true, "3bf6145e6fa954b730f9c3ef544cad6ae58204b870e3470e9433a5ba1af76384"), looks := true }, kinds := [], alts := [], laidByText := true, laidKinds := [.handle], laidTests := true, laidLooks := .later }
def LayoutTellsCardSaid : Prop := Claim7.holds Tryd.pinned (.plain (OpenSpec.ofChange layoutTellsSpec)) layoutTellsCard

/-- THE SECOND FORM's CARD OF 'paritylaw1.CodeAny'. -/
def codeAnyUptoCard : Claim7 := { stood := { row := codeAnyUptoRow, standIns := [], harness := (true, "3bf6145e6fa954b730f9c3ef544cad6ae58204b870e3470e9433a5ba1af76384"), looks := true }, kinds := [], alts := [], laidByText := true, laidKinds := [.handle], laidTests := true, laidLooks := .later }
def CodeAnyUptoCardSaid : Prop := Claim7.holds Tryd.pinned (.plain (OpenSpec.upto codeAnySpec)) codeAnyUptoCard

/-- THE SECOND FORM's CARD OF 'paritylaw1.PqTells'. -/
def pqTellsUptoCard : Claim7 := { stood := { row := pqTellsUptoRow, standIns := [], harness := (true, "3bf6145e6fa954b730f9c3ef544cad6ae58204b870e3470e9433a5ba1af76384"), looks := true }, kinds := [], alts := [], laidByText := true, laidKinds := [.handle], laidTests := true, laidLooks := .later }
def PqTellsUptoCardSaid : Prop := Claim7.holds Tryd.pinned (.plain (OpenSpec.upto pqTellsSpec)) pqTellsUptoCard

/-- THE SECOND FORM's CARD OF 'paritylaw1.LayoutTells'. -/
def layoutTellsUptoCard : Claim7 := { stood := { row := layoutTellsUptoRow, standIns := [], harness := (true, "3bf6145e6fa954b730f9c3ef544cad6ae58204b870e3470e9433a5ba1af76384"), looks := true }, kinds := [], alts := [], laidByText := true, laidKinds := [.handle], laidTests := true, laidLooks := .later }
def LayoutTellsUptoCardSaid : Prop := Claim7.holds Tryd.pinned (.plain (OpenSpec.upto layoutTellsSpec)) layoutTellsUptoCard
end Rows
end Go.Proofs.YtlomcajabngnpacDoor
