/- The matrix of rows. -/
import Derived.Test.YtfeikmmojilmbaaMe
namespace Go.Proofs.Ytfeikmmojilmbaa
open El Pol Mx
/-- the matrix of rows -/
abbrev mx (R : Nat → List El) : M := fun i j => co (R i) j
end Go.Proofs.Ytfeikmmojilmbaa
