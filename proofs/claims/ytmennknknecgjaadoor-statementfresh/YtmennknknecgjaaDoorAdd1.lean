/-
  Ours: the contract of money.Add.
-/
import Derived.Test.YtmennknknecgjaaDoorSum
namespace Go.Proofs.YtmennknknecgjaaDoor
open Go.RowKit

end Go.Proofs.YtmennknknecgjaaDoor
