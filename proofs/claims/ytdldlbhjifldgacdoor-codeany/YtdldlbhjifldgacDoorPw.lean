/- Texts of plain mathematics, of memory and of walks, in one. -/
import Derived.Test.YtdldlbhjifldgacDoorCd
import Derived.Test.YtdldlbhjifldgacDoorTxW
import Derived.Test.YtdldlbhjifldgacDoorTxX
/- Texts that are the same (TxW), beside the walks of codes. -/

/- What paritysame.Texts answers (TxX), beside the walks of codes. -/
