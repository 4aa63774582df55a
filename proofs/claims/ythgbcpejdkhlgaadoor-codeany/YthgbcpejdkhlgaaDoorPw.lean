/- Texts of plain mathematics, of memory and of walks, in one. -/
import Derived.Test.YthgbcpejdkhlgaaDoorCd
import Derived.Test.YthgbcpejdkhlgaaDoorTxW
import Derived.Test.YthgbcpejdkhlgaaDoorTxX
/- Texts that are the same (TxW), beside the walks of codes. -/

/- What paritysame.Texts answers (TxX), beside the walks of codes. -/
