/-
  Words and walks that the later chapters share, where the seat has those of objects, too.
-/
import Derived.Test.YtpcfabgjdefkiaaReads
import Derived.Test.YtpcfabgjdefkiaaCopy
import Derived.Test.YtpcfabgjdefkiaaPick
import Derived.Test.YtpcfabgjdefkiaaText
import Derived.Test.YtpcfabgjdefkiaaToObs
import Derived.Test.YtpcfabgjdefkiaaRows3
import Derived.Test.YtpcfabgjdefkiaaApp
import Derived.Test.YtpcfabgjdefkiaaObject
import Derived.Test.YtpcfabgjdefkiaaLater
import Derived.Test.YtpcfabgjdefkiaaDrawOb
import Derived.Test.YtpcfabgjdefkiaaOwnObs
import Derived.Maps.AppendAt
import Derived.Maps.RangeWalk
import Derived.Laws.BytesString
import Derived.Deep.RegionHeld3
import Derived.Deep.RegionLaw
import Derived.Lib.AppendStr
