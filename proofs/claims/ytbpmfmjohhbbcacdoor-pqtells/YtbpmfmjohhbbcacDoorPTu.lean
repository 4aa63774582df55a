/- What PqTells is made of. -/
import Derived.Test.YtbpmfmjohhbbcacDoorRefLo
import Derived.Test.YtbpmfmjohhbbcacDoorRefUb
import Derived.Test.YtbpmfmjohhbbcacDoorEr
import Derived.Test.YtbpmfmjohhbbcacDoorPl
import Derived.Test.YtbpmfmjohhbbcacDoorPqW8
import Derived.Test.YtbpmfmjohhbbcacDoorPw
namespace Go.Proofs.YtbpmfmjohhbbcacDoor
open Go.ChangeShapes Go.WideShapes Go.ChangeAt Go.RowKit El Pol Mx
end Go.Proofs.YtbpmfmjohhbbcacDoor
