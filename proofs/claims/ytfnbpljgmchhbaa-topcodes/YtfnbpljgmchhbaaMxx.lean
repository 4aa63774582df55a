/- The matrix of rows. -/
import Derived.Test.YtfnbpljgmchhbaaMe
namespace Go.Proofs.Ytfnbpljgmchhbaa
open El Pol Mx
/-- the matrix of rows -/
abbrev mx (R : Nat → List El) : M := fun i j => co (R i) j
end Go.Proofs.Ytfnbpljgmchhbaa
