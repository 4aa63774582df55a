/- What a made, an appended and a drawn piece of memory is (MemJ), beside the walks of the field. -/
import Derived.Test.YtcjokofebnfkkaaDoorMemJ
import Derived.Test.YtcjokofebnfkkaaDoorWalk0
