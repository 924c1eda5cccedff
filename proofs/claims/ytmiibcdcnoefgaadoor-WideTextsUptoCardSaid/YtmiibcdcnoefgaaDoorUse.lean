/- What all walks that call Go's library import. -/
import Derived.Test.YtmiibcdcnoefgaaDoorShelf
import Derived.Test.YtmiibcdcnoefgaaDoorMem
