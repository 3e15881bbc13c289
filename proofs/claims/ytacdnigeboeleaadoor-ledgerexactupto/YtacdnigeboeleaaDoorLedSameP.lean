/-
  Ours: at a seat that has both, the one text serves.
-/
import Derived.Test.YtacdnigeboeleaaDoorLedSame
import Derived.Test.YtacdnigeboeleaaDoorLedTot
