/- What PqTells is made of. -/
import Derived.Test.YtogkfbemccahmacDoorRefLo
import Derived.Test.YtogkfbemccahmacDoorRefUb
import Derived.Test.YtogkfbemccahmacDoorEr
import Derived.Test.YtogkfbemccahmacDoorPqW7
import Derived.Test.YtogkfbemccahmacDoorPqW8
import Derived.Test.YtogkfbemccahmacDoorPw
namespace Go.Proofs.YtogkfbemccahmacDoor
open Go.ChangeShapes Go.WideShapes Go.ChangeAt Go.RowKit El Pol Mx
end Go.Proofs.YtogkfbemccahmacDoor
