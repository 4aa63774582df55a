/- The matrix of rows. -/
import Derived.Test.YtacanmjimngloakMemN
namespace Go.Proofs.Ytacanmjimngloak
open El Pol Mx
/-- the matrix of rows -/
abbrev mx (R : Nat → List El) : M := fun i j => co (R i) j
end Go.Proofs.Ytacanmjimngloak
