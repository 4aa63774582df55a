/-
  DERIVED. GIVEN WITH THE SEED: THE CARDS: each row of YtomfhjimdjfmnafDoorRows.lean that lists a variable, with what it lists TIED to the program's text (the seventh form; the later family's looks); each row that meets fmt, with fmt's text TOLD by the authors' own Lean function (tested against real Go, not proved from fmt's source: count such statements apart). THE CARD IS WHAT COUNTS. Prove the row's statement (the work); the ties are given (YtomfhjimdjfmnafDoorTie.lean); close each card by the builder's one call (the guide's Derived/Test/ToyasCard.lean, 'card_holds'). Laid BY PROGRAM, IN A SANDBOX (cutbox-door.mjs). By AI agents, Wed Nov 11 2026. No macro, syntax, notation, axiom, sorry.
-/
import Derived.Test.YtomfhjimdjfmnafDoorRows
import GoSem.ClaimSeven
namespace Go.Proofs.YtomfhjimdjfmnafDoor
namespace Rows

/-- THE TIED CARD OF 'paritylaw2.IntentPlays'. -/
def intentPlaysCard : Claim7 := { stood := { row := intentPlaysRow, standIns := [], harness := (true, "b32a2b25fea08080aa0caca7549baa6f1ac13393fab1bca99a568323a5c7525e"), looks := true }, kinds := [], alts := [], laidByText := true, laidKinds := [.handle], laidTests := true, laidLooks := .later }
def IntentPlaysCardSaid : Prop := Claim7.holds Tryd.pinned (.plain (OpenSpec.ofChange intentPlaysSpec)) intentPlaysCard

/-- THE SECOND FORM's CARD OF 'paritylaw2.IntentPlays'. -/
def intentPlaysUptoCard : Claim7 := { stood := { row := intentPlaysUptoRow, standIns := [], harness := (true, "b32a2b25fea08080aa0caca7549baa6f1ac13393fab1bca99a568323a5c7525e"), looks := true }, kinds := [], alts := [], laidByText := true, laidKinds := [.handle], laidTests := true, laidLooks := .later }
def IntentPlaysUptoCardSaid : Prop := Claim7.holds Tryd.pinned (.plain (OpenSpec.upto intentPlaysSpec)) intentPlaysUptoCard
end Rows
end Go.Proofs.YtomfhjimdjfmnafDoor
