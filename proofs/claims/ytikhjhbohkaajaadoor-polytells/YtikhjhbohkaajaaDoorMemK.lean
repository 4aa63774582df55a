/- What a made, an appended and a drawn piece of memory is (MemJ), beside the walks of the field. -/
import Derived.Test.YtikhjhbohkaajaaDoorMemJ
import Derived.Test.YtikhjhbohkaajaaDoorWalk0
