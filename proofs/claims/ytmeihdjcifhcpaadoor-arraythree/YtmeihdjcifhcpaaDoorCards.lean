/-
  DERIVED. GIVEN WITH THE SEED: THE CARDS: each row of YtmeihdjcifhcpaaDoorRows.lean that lists a variable, with what it lists TIED to the program's text (the seventh form; the later family's looks); each row that meets fmt, with fmt's text TOLD by the authors' own Lean function (tested against real Go, not proved from fmt's source: count such statements apart). THE CARD IS WHAT COUNTS. Prove the row's statement (the work); the ties are given (YtmeihdjcifhcpaaDoorTie.lean); close each card by the builder's one call (the guide's Derived/Test/ToyasCard.lean, 'card_holds'). Laid BY PROGRAM, IN A SANDBOX (cutbox-door.mjs). By AI agents, Wed Nov 11 2026. No macro, syntax, notation, axiom, sorry.
-/
import Derived.Test.YtmeihdjcifhcpaaDoorRows
import GoSem.ClaimSeven
namespace Go.Proofs.YtmeihdjcifhcpaaDoor
namespace Rows

/-- THE TIED CARD OF 'paritylaw4.LayoutRound'. -/
def layoutRoundCard : Claim7 := { stood := { row := layoutRoundRow, standIns := [], harness := (true, "b50a1f2a16b8c5ee5b5700e7dbae52ac1125c45e735bad156d308199b6438c7f"), looks := true }, kinds := [], alts := [], laidByText := true, laidKinds := [.handle], laidTests := true, laidLooks := .later }
def LayoutRoundCardSaid : Prop := Claim7.holds Tryd.pinned (.plain (OpenSpec.ofChange layoutRoundSpec)) layoutRoundCard

/-- THE TIED CARD OF 'paritylaw4.DiskBlank'. -/
def diskBlankCard : Claim7 := { stood := { row := diskBlankRow, standIns := [], harness := (true, "b50a1f2a16b8c5ee5b5700e7dbae52ac1125c45e735bad156d308199b6438c7f"), looks := true }, kinds := [], alts := [], laidByText := true, laidKinds := [.handle], laidTests := true, laidLooks := .later }
def DiskBlankCardSaid : Prop := Claim7.holds Tryd.pinned (.plain (OpenSpec.ofChange diskBlankSpec)) diskBlankCard

/-- THE TIED CARD OF 'paritylaw1.DiskPlays'. -/
def diskPlaysCard : Claim7 := { stood := { row := diskPlaysRow, standIns := [], harness := (true, "b50a1f2a16b8c5ee5b5700e7dbae52ac1125c45e735bad156d308199b6438c7f"), looks := true }, kinds := [], alts := [], laidByText := true, laidKinds := [.handle], laidTests := true, laidLooks := .later }
def DiskPlaysCardSaid : Prop := Claim7.holds Tryd.pinned (.plain (OpenSpec.ofChange diskPlaysSpec)) diskPlaysCard

/-- THE TIED CARD OF 'paritylaw1.ArrayKeeps'. -/
def arrayKeepsCard : Claim7 := { stood := { row := arrayKeepsRow, standIns := [], harness := (true, "b50a1f2a16b8c5ee5b5700e7dbae52ac1125c45e735bad156d308199b6438c7f"), looks := true }, kinds := [], alts := [], laidByText := true, laidKinds := [.handle], laidTests := true, laidLooks := .later }
def ArrayKeepsCardSaid : Prop := Claim7.holds Tryd.pinned (.plain (OpenSpec.ofChange arrayKeepsSpec)) arrayKeepsCard

/-- THE TIED CARD OF 'paritylaw4.ArrayThree'. -/
def arrayThreeCard : Claim7 := { stood := { row := arrayThreeRow, standIns := [], harness := (true, "b50a1f2a16b8c5ee5b5700e7dbae52ac1125c45e735bad156d308199b6438c7f"), looks := true }, kinds := [], alts := [], laidByText := true, laidKinds := [.handle], laidTests := true, laidLooks := .later }
def ArrayThreeCardSaid : Prop := Claim7.holds Tryd.pinned (.plain (OpenSpec.ofChange arrayThreeSpec)) arrayThreeCard

/-- THE SECOND FORM's CARD OF 'paritylaw4.LayoutRound'. -/
def layoutRoundUptoCard : Claim7 := { stood := { row := layoutRoundUptoRow, standIns := [], harness := (true, "b50a1f2a16b8c5ee5b5700e7dbae52ac1125c45e735bad156d308199b6438c7f"), looks := true }, kinds := [], alts := [], laidByText := true, laidKinds := [.handle], laidTests := true, laidLooks := .later }
def LayoutRoundUptoCardSaid : Prop := Claim7.holds Tryd.pinned (.plain (OpenSpec.upto layoutRoundSpec)) layoutRoundUptoCard

/-- THE SECOND FORM's CARD OF 'paritylaw4.DiskBlank'. -/
def diskBlankUptoCard : Claim7 := { stood := { row := diskBlankUptoRow, standIns := [], harness := (true, "b50a1f2a16b8c5ee5b5700e7dbae52ac1125c45e735bad156d308199b6438c7f"), looks := true }, kinds := [], alts := [], laidByText := true, laidKinds := [.handle], laidTests := true, laidLooks := .later }
def DiskBlankUptoCardSaid : Prop := Claim7.holds Tryd.pinned (.plain (OpenSpec.upto diskBlankSpec)) diskBlankUptoCard

/-- THE SECOND FORM's CARD OF 'paritylaw1.DiskPlays'. -/
def diskPlaysUptoCard : Claim7 := { stood := { row := diskPlaysUptoRow, standIns := [], harness := (true, "b50a1f2a16b8c5ee5b5700e7dbae52ac1125c45e735bad156d308199b6438c7f"), looks := true }, kinds := [], alts := [], laidByText := true, laidKinds := [.handle], laidTests := true, laidLooks := .later }
def DiskPlaysUptoCardSaid : Prop := Claim7.holds Tryd.pinned (.plain (OpenSpec.upto diskPlaysSpec)) diskPlaysUptoCard

/-- THE SECOND FORM's CARD OF 'paritylaw1.ArrayKeeps'. -/
def arrayKeepsUptoCard : Claim7 := { stood := { row := arrayKeepsUptoRow, standIns := [], harness := (true, "b50a1f2a16b8c5ee5b5700e7dbae52ac1125c45e735bad156d308199b6438c7f"), looks := true }, kinds := [], alts := [], laidByText := true, laidKinds := [.handle], laidTests := true, laidLooks := .later }
def ArrayKeepsUptoCardSaid : Prop := Claim7.holds Tryd.pinned (.plain (OpenSpec.upto arrayKeepsSpec)) arrayKeepsUptoCard

/-- THE SECOND FORM's CARD OF 'paritylaw4.ArrayThree'. -/
def arrayThreeUptoCard : Claim7 := { stood := { row := arrayThreeUptoRow, standIns := [], harness := (true, "b50a1f2a16b8c5ee5b5700e7dbae52ac1125c45e735bad156d308199b6438c7f"), looks := true }, kinds := [], alts := [], laidByText := true, laidKinds := [.handle], laidTests := true, laidLooks := .later }
def ArrayThreeUptoCardSaid : Prop := Claim7.holds Tryd.pinned (.plain (OpenSpec.upto arrayThreeSpec)) arrayThreeUptoCard
end Rows
end Go.Proofs.YtmeihdjcifhcpaaDoor
