/- What the document's own Blocks answers (RefUa), beside lists of lists in memory. -/
import Derived.Test.YtlomcajabngnpacDoorCd
import Derived.Test.YtlomcajabngnpacDoorRefUa
