/- The matrix of rows. -/
import Derived.Test.YthgbcpejdkhlgaaDoorMe
namespace Go.Proofs.YthgbcpejdkhlgaaDoor
open El Pol Mx
/-- the matrix of rows -/
abbrev mx (R : Nat → List El) : M := fun i j => co (R i) j
end Go.Proofs.YthgbcpejdkhlgaaDoor
