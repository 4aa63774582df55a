/- The matrix of rows. -/
import Derived.Test.YtilfjahbdlepjaaGreatDoorMe
namespace Go.Proofs.YtilfjahbdlepjaaGreatDoor
open El Pol Mx
/-- the matrix of rows -/
abbrev mx (R : Nat → List El) : M := fun i j => co (R i) j
end Go.Proofs.YtilfjahbdlepjaaGreatDoor
