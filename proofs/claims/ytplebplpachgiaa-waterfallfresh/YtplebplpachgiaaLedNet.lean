/-
  Ours: a book's cells, as types have them.
-/
import Derived.Test.YtplebplpachgiaaLedOwn
namespace Go.Proofs.Ytplebplpachgiaa
open Go.RowKit LedM

end Go.Proofs.Ytplebplpachgiaa
