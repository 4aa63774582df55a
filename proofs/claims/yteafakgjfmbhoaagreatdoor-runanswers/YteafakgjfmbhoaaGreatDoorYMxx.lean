/- Texts of plain mathematics, of memory and of walks, in one. -/
import Derived.Test.YteafakgjfmbhoaaGreatDoorMe
/- The matrix of rows. -/
namespace Go.Proofs.YteafakgjfmbhoaaGreatDoor
open El Pol Mx
/-- the matrix of rows -/
abbrev mx (R : Nat → List El) : M := fun i j => co (R i) j
end Go.Proofs.YteafakgjfmbhoaaGreatDoor
