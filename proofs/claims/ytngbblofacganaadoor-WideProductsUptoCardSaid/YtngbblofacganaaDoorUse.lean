/- What all walks that call Go's library import. -/
import Derived.Test.YtngbblofacganaaDoorShelf
import Derived.Test.YtngbblofacganaaDoorMem
