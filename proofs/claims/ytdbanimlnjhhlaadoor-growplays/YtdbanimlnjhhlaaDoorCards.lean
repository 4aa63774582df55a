/-
  DERIVED. GIVEN WITH THE SEED: THE CARDS: each row of YtdbanimlnjhhlaaDoorRows.lean that lists a variable, with what it lists TIED to the program's text (the seventh form; the later family's looks); each row that meets fmt, with fmt's text TOLD by the authors' own Lean function (tested against real Go, not proved from fmt's source: count such statements apart). THE CARD IS WHAT COUNTS. Prove the row's statement (the work); the ties are given (YtdbanimlnjhhlaaDoorTie.lean); close each card by the builder's one call (the guide's Derived/Test/ToyasCard.lean, 'card_holds'). Laid BY PROGRAM, IN A SANDBOX (cutbox-door.mjs). By AI agents, Wed Nov 11 2026. No macro, syntax, notation, axiom, sorry.
-/
import Derived.Test.YtdbanimlnjhhlaaDoorRows
import GoSem.ClaimSeven
namespace Go.Proofs.YtdbanimlnjhhlaaDoor
namespace Rows

/-- THE TIED CARD OF 'paritylaw4.PlaceAll'. -/
def placeAllCard : Claim7 := { stood := { row := placeAllRow, standIns := [], harness := (true, "6199a78e902acb5b4c4dd1f025618d7d2a7276a18d744fc8983c7462a64e8720"), looks := true }, kinds := [], alts := [], laidByText := true, laidKinds := [.handle], laidTests := true, laidLooks := .later }
def PlaceAllCardSaid : Prop := Claim7.holds Tryd.pinned (.plain (OpenSpec.ofChange placeAllSpec)) placeAllCard

/-- THE TIED CARD OF 'paritylaw3.GrowKeeps'. -/
def growKeepsCard : Claim7 := { stood := { row := growKeepsRow, standIns := [], harness := (true, "6199a78e902acb5b4c4dd1f025618d7d2a7276a18d744fc8983c7462a64e8720"), looks := true }, kinds := [], alts := [], laidByText := true, laidKinds := [.handle], laidTests := true, laidLooks := .later }
def GrowKeepsCardSaid : Prop := Claim7.holds Tryd.pinned (.plain (OpenSpec.ofChange growKeepsSpec)) growKeepsCard

/-- THE TIED CARD OF 'paritylaw3.GrowPlays'. -/
def growPlaysCard : Claim7 := { stood := { row := growPlaysRow, standIns := [], harness := (true, "6199a78e902acb5b4c4dd1f025618d7d2a7276a18d744fc8983c7462a64e8720"), looks := true }, kinds := [], alts := [], laidByText := true, laidKinds := [.handle], laidTests := true, laidLooks := .later }
def GrowPlaysCardSaid : Prop := Claim7.holds Tryd.pinned (.plain (OpenSpec.ofChange growPlaysSpec)) growPlaysCard

/-- THE TIED CARD OF 'paritylaw3.WireTells'. -/
def wireTellsCard : Claim7 := { stood := { row := wireTellsRow, standIns := [], harness := (true, "6199a78e902acb5b4c4dd1f025618d7d2a7276a18d744fc8983c7462a64e8720"), looks := true }, kinds := [], alts := [], laidByText := true, laidKinds := [.handle], laidTests := true, laidLooks := .later }
def WireTellsCardSaid : Prop := Claim7.holds Tryd.pinned (.plain (OpenSpec.ofChange wireTellsSpec)) wireTellsCard

/-- THE SECOND FORM's CARD OF 'paritylaw4.PlaceAll'. -/
def placeAllUptoCard : Claim7 := { stood := { row := placeAllUptoRow, standIns := [], harness := (true, "6199a78e902acb5b4c4dd1f025618d7d2a7276a18d744fc8983c7462a64e8720"), looks := true }, kinds := [], alts := [], laidByText := true, laidKinds := [.handle], laidTests := true, laidLooks := .later }
def PlaceAllUptoCardSaid : Prop := Claim7.holds Tryd.pinned (.plain (OpenSpec.upto placeAllSpec)) placeAllUptoCard

/-- THE SECOND FORM's CARD OF 'paritylaw3.GrowKeeps'. -/
def growKeepsUptoCard : Claim7 := { stood := { row := growKeepsUptoRow, standIns := [], harness := (true, "6199a78e902acb5b4c4dd1f025618d7d2a7276a18d744fc8983c7462a64e8720"), looks := true }, kinds := [], alts := [], laidByText := true, laidKinds := [.handle], laidTests := true, laidLooks := .later }
def GrowKeepsUptoCardSaid : Prop := Claim7.holds Tryd.pinned (.plain (OpenSpec.upto growKeepsSpec)) growKeepsUptoCard

/-- THE SECOND FORM's CARD OF 'paritylaw3.GrowPlays'. -/
def growPlaysUptoCard : Claim7 := { stood := { row := growPlaysUptoRow, standIns := [], harness := (true, "6199a78e902acb5b4c4dd1f025618d7d2a7276a18d744fc8983c7462a64e8720"), looks := true }, kinds := [], alts := [], laidByText := true, laidKinds := [.handle], laidTests := true, laidLooks := .later }
def GrowPlaysUptoCardSaid : Prop := Claim7.holds Tryd.pinned (.plain (OpenSpec.upto growPlaysSpec)) growPlaysUptoCard

/-- THE SECOND FORM's CARD OF 'paritylaw3.WireTells'. -/
def wireTellsUptoCard : Claim7 := { stood := { row := wireTellsUptoRow, standIns := [], harness := (true, "6199a78e902acb5b4c4dd1f025618d7d2a7276a18d744fc8983c7462a64e8720"), looks := true }, kinds := [], alts := [], laidByText := true, laidKinds := [.handle], laidTests := true, laidLooks := .later }
def WireTellsUptoCardSaid : Prop := Claim7.holds Tryd.pinned (.plain (OpenSpec.upto wireTellsSpec)) wireTellsUptoCard
end Rows
end Go.Proofs.YtdbanimlnjhhlaaDoor
