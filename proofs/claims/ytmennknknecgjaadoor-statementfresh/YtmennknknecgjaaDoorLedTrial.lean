/-
  Ours: Trial, the program's.
-/
import Derived.Test.YtmennknknecgjaaDoorLedTrialM
import Derived.Test.YtmennknknecgjaaDoorLedWide
import Derived.Test.YtmennknknecgjaaDoorLedNet
namespace Go.Proofs.YtmennknknecgjaaDoor
open Go.RowKit LedM

end Go.Proofs.YtmennknknecgjaaDoor
