/- What block.Check answers (BlkB), beside lists of lists in memory. -/
import Derived.Test.YtacanmjimngloakMemS
import Derived.Test.YtacanmjimngloakBlkB
