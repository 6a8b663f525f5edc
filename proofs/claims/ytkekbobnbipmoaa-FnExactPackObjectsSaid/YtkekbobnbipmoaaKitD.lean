/-
  Words and walks that the later chapters share, where the seat has those of objects, too.
-/
import Derived.Test.YtkekbobnbipmoaaReads
import Derived.Test.YtkekbobnbipmoaaCopy
import Derived.Test.YtkekbobnbipmoaaPick
import Derived.Test.YtkekbobnbipmoaaText
import Derived.Test.YtkekbobnbipmoaaToObs
import Derived.Test.YtkekbobnbipmoaaRows3
import Derived.Test.YtkekbobnbipmoaaApp
import Derived.Test.YtkekbobnbipmoaaObject
import Derived.Test.YtkekbobnbipmoaaLater
import Derived.Test.YtkekbobnbipmoaaDrawOb
import Derived.Test.YtkekbobnbipmoaaOwnObs
import Derived.Maps.AppendAt
import Derived.Maps.RangeWalk
import Derived.Laws.BytesString
import Derived.Deep.RegionHeld3
import Derived.Deep.RegionLaw
import Derived.Lib.AppendStr
