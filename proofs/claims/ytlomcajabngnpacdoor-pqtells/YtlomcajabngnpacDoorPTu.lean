/- What PqTells is made of. -/
import Derived.Test.YtlomcajabngnpacDoorRefLo
import Derived.Test.YtlomcajabngnpacDoorRefUb
import Derived.Test.YtlomcajabngnpacDoorEr
import Derived.Test.YtlomcajabngnpacDoorPl
import Derived.Test.YtlomcajabngnpacDoorPqW8
import Derived.Test.YtlomcajabngnpacDoorPw
namespace Go.Proofs.YtlomcajabngnpacDoor
open Go.ChangeShapes Go.WideShapes Go.ChangeAt Go.RowKit El Pol Mx
end Go.Proofs.YtlomcajabngnpacDoor
