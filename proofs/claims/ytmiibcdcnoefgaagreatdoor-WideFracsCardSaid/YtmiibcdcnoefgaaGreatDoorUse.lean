/- What all walks that call Go's library import. -/
import Derived.Test.YtmiibcdcnoefgaaGreatDoorShelf
import Derived.Test.YtmiibcdcnoefgaaGreatDoorMem
