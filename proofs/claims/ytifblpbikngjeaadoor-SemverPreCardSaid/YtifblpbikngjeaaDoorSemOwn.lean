/- The program's contracts of layer 4, together. -/
import Derived.Test.YtifblpbikngjeaaDoorSemCheckOwn2
import Derived.Test.YtifblpbikngjeaaDoorSemShowOwn
import Derived.Test.YtifblpbikngjeaaDoorSemParseOwn
import Derived.Test.YtifblpbikngjeaaDoorSemCmpAll
import Derived.Test.YtifblpbikngjeaaDoorSemHighOwn
import Derived.Test.YtifblpbikngjeaaDoorSemLight
