/- Two lists of whole numbers are the same, beside the layout. -/
import Derived.Test.YtomfhjimdjfmnacDoorLy
import Derived.Test.YtomfhjimdjfmnacDoorIntsS
