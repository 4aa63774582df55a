/-
  DERIVED. GIVEN WITH THE SEED: THE CARDS: each row of YthgbcpejdkhlgaaDoorRows.lean that lists a variable, with what it lists TIED to the program's text (the seventh form; the later family's looks); each row that meets fmt, with fmt's text TOLD by the authors' own Lean function (tested against real Go, not proved from fmt's source: count such statements apart). THE CARD IS WHAT COUNTS. Prove the row's statement (the work); the ties are given (YthgbcpejdkhlgaaDoorTie.lean); close each card by the builder's one call (the guide's Derived/Test/ToyasCard.lean, 'card_holds'). Laid BY PROGRAM, IN A SANDBOX (cutbox-door.mjs). By AI agents, Wed Nov 11 2026. No macro, syntax, notation, axiom, sorry.
-/
import Derived.Test.YthgbcpejdkhlgaaDoorRows
import GoSem.ClaimSeven
namespace Go.Proofs.YthgbcpejdkhlgaaDoor
namespace Rows

/-- THE TIED CARD OF 'paritylaw1.CodeTells'. -/
def codeTellsCard : Claim7 := { stood := { row := codeTellsRow, standIns := [], harness := (true, "5e9fc8f1e66d4b8f1d62c97192221dd469f4bf7043fa5c0cc4a48d70a9d499de"), looks := true }, kinds := [], alts := [], laidByText := true, laidKinds := [.handle], laidTests := true, laidLooks := .later }
def CodeTellsCardSaid : Prop := Claim7.holds Tryd.pinned (.plain (OpenSpec.ofChange codeTellsSpec)) codeTellsCard

/-- THE TIED CARD OF 'paritylaw1.CodeAny'. -/
def codeAnyCard : Claim7 := { stood := { row := codeAnyRow, standIns := [], harness := (true, "5e9fc8f1e66d4b8f1d62c97192221dd469f4bf7043fa5c0cc4a48d70a9d499de"), looks := true }, kinds := [], alts := [], laidByText := true, laidKinds := [.handle], laidTests := true, laidLooks := .later }
def CodeAnyCardSaid : Prop := Claim7.holds Tryd.pinned (.plain (OpenSpec.ofChange codeAnySpec)) codeAnyCard

/-- THE TIED CARD OF 'paritylaw1.PqTells'. -/
def pqTellsCard : Claim7 := { stood := { row := pqTellsRow, standIns := [], harness := (true, "5e9fc8f1e66d4b8f1d62c97192221dd469f4bf7043fa5c0cc4a48d70a9d499de"), looks := true }, kinds := [], alts := [], laidByText := true, laidKinds := [.handle], laidTests := true, laidLooks := .later }
def PqTellsCardSaid : Prop := Claim7.holds Tryd.pinned (.plain (OpenSpec.ofChange pqTellsSpec)) pqTellsCard

/-- THE SECOND FORM's CARD OF 'paritylaw1.CodeTells'. -/
def codeTellsUptoCard : Claim7 := { stood := { row := codeTellsUptoRow, standIns := [], harness := (true, "5e9fc8f1e66d4b8f1d62c97192221dd469f4bf7043fa5c0cc4a48d70a9d499de"), looks := true }, kinds := [], alts := [], laidByText := true, laidKinds := [.handle], laidTests := true, laidLooks := .later }
def CodeTellsUptoCardSaid : Prop := Claim7.holds Tryd.pinned (.plain (OpenSpec.upto codeTellsSpec)) codeTellsUptoCard

/-- THE SECOND FORM's CARD OF 'paritylaw1.CodeAny'. -/
def codeAnyUptoCard : Claim7 := { stood := { row := codeAnyUptoRow, standIns := [], harness := (true, "5e9fc8f1e66d4b8f1d62c97192221dd469f4bf7043fa5c0cc4a48d70a9d499de"), looks := true }, kinds := [], alts := [], laidByText := true, laidKinds := [.handle], laidTests := true, laidLooks := .later }
def CodeAnyUptoCardSaid : Prop := Claim7.holds Tryd.pinned (.plain (OpenSpec.upto codeAnySpec)) codeAnyUptoCard

/-- THE SECOND FORM's CARD OF 'paritylaw1.PqTells'. -/
def pqTellsUptoCard : Claim7 := { stood := { row := pqTellsUptoRow, standIns := [], harness := (true, "5e9fc8f1e66d4b8f1d62c97192221dd469f4bf7043fa5c0cc4a48d70a9d499de"), looks := true }, kinds := [], alts := [], laidByText := true, laidKinds := [.handle], laidTests := true, laidLooks := .later }
def PqTellsUptoCardSaid : Prop := Claim7.holds Tryd.pinned (.plain (OpenSpec.upto pqTellsSpec)) pqTellsUptoCard
end Rows
end Go.Proofs.YthgbcpejdkhlgaaDoor
