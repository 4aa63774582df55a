/- What PqTells is made of. -/
import Derived.Test.YthgbcpejdkhlgaaDoorRefLo
import Derived.Test.YthgbcpejdkhlgaaDoorRefUb
import Derived.Test.YthgbcpejdkhlgaaDoorEr
import Derived.Test.YthgbcpejdkhlgaaDoorPl
import Derived.Test.YthgbcpejdkhlgaaDoorPqW8
import Derived.Test.YthgbcpejdkhlgaaDoorPw
namespace Go.Proofs.YthgbcpejdkhlgaaDoor
open Go.ChangeShapes Go.WideShapes Go.ChangeAt Go.RowKit El Pol Mx
end Go.Proofs.YthgbcpejdkhlgaaDoor
