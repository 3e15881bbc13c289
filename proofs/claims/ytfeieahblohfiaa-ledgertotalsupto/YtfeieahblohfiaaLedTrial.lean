/-
  Ours: Trial, the program's.
-/
import Derived.Test.YtfeieahblohfiaaLedTrialM
import Derived.Test.YtfeieahblohfiaaLedWide
import Derived.Test.YtfeieahblohfiaaLedNet
namespace Go.Proofs.Ytfeieahblohfiaa
open Go.RowKit LedM

end Go.Proofs.Ytfeieahblohfiaa
