/- Two lists of whole numbers are the same, beside the layout. -/
import Derived.Test.YtpajchokohfhpaaDoorLayH
import Derived.Test.YtpajchokohfhpaaDoorIntsS
