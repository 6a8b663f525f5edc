/-
  The program's functions on quarantines: what is changed lies apart.
-/
import Derived.Test.YtblknnifccmpkaaQuarI
import Derived.Test.YtblknnifccmpkaaMarkQ
