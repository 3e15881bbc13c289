/-
  Ours: Trial, the program's.
-/
import Derived.Test.YthidhjpmjgokgaaLedTrialM
import Derived.Test.YthidhjpmjgokgaaLedWide
import Derived.Test.YthidhjpmjgokgaaLedNet
namespace Go.Proofs.Ythidhjpmjgokgaa
open Go.RowKit LedM

end Go.Proofs.Ythidhjpmjgokgaa
