/- Texts of plain mathematics, of memory and of walks, in one. -/
import Derived.Test.YtfgcngbbabehhacDoorCd
import Derived.Test.YtfgcngbbabehhacDoorTxW
import Derived.Test.YtfgcngbbabehhacDoorTxX
/- Texts that are the same (TxW), beside the walks of codes. -/

/- What paritysame.Texts answers (TxX), beside the walks of codes. -/
