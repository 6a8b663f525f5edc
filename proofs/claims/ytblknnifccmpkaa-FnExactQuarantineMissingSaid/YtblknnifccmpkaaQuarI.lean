/-
  The program's functions on quarantines, all of them.
-/
import Derived.Test.YtblknnifccmpkaaQuarB
import Derived.Test.YtblknnifccmpkaaQuarK
