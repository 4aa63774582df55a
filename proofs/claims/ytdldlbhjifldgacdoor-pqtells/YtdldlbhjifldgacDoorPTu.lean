/- What PqTells is made of. -/
import Derived.Test.YtdldlbhjifldgacDoorRefLo
import Derived.Test.YtdldlbhjifldgacDoorRefUb
import Derived.Test.YtdldlbhjifldgacDoorEr
import Derived.Test.YtdldlbhjifldgacDoorPl
import Derived.Test.YtdldlbhjifldgacDoorPqW8
import Derived.Test.YtdldlbhjifldgacDoorPw
namespace Go.Proofs.YtdldlbhjifldgacDoor
open Go.ChangeShapes Go.WideShapes Go.ChangeAt Go.RowKit El Pol Mx
end Go.Proofs.YtdldlbhjifldgacDoor
