/- What the document's own Blocks answers (RefUa), beside lists of lists in memory. -/
import Derived.Test.YtpodboklhajbeaaDoorCd
import Derived.Test.YtpodboklhajbeaaDoorRefUa
