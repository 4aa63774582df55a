/- Texts of plain mathematics, of memory and of walks, in one. -/
import Derived.Test.YtpodboklhajbeaaDoorCd
import Derived.Test.YtpodboklhajbeaaDoorTxW
import Derived.Test.YtpodboklhajbeaaDoorTxX
/- Texts that are the same (TxW), beside the walks of codes. -/

/- What paritysame.Texts answers (TxX), beside the walks of codes. -/
