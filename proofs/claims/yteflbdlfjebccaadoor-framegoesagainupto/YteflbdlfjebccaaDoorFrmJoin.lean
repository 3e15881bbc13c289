/-
  Ours: frame.Join.
-/
import Derived.Test.YteflbdlfjebccaaDoorFrmLaw3
namespace Go.Proofs.YteflbdlfjebccaaDoor
open Go.RowKit

end Go.Proofs.YteflbdlfjebccaaDoor
