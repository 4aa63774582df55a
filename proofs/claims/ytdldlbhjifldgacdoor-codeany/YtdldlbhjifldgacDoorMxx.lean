/- The matrix of rows. -/
import Derived.Test.YtdldlbhjifldgacDoorMe
namespace Go.Proofs.YtdldlbhjifldgacDoor
open El Pol Mx
/-- the matrix of rows -/
abbrev mx (R : Nat → List El) : M := fun i j => co (R i) j
end Go.Proofs.YtdldlbhjifldgacDoor
