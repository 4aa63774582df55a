/- Texts of plain mathematics, of memory and of walks, in one. -/
import Derived.Test.YtcjokofebnfkkaaCd
import Derived.Test.YtcjokofebnfkkaaTxW
/- Texts that are the same (TxW), beside the walks of codes. -/
