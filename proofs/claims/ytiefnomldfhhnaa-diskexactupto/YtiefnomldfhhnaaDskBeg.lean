/-
  Ours: begins.
-/
import Derived.Test.YtiefnomldfhhnaaDskSide
namespace Go.Proofs.Ytiefnomldfhhnaa
open Go.RowKit

end Go.Proofs.Ytiefnomldfhhnaa
