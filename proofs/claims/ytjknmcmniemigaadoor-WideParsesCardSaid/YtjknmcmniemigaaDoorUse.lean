/- What all walks that call Go's library import. -/
import Derived.Test.YtjknmcmniemigaaDoorShelf
import Derived.Test.YtjknmcmniemigaaDoorMem
