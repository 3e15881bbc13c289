/-
  Ours: what a payment is taken for, as numbers.
-/
import Derived.Test.YtplebplpachgiaaLedOwn
namespace Go.Proofs.Ytplebplpachgiaa
open Go.RowKit LedM

namespace WatM
abbrev z5 : List Int := [0, 0, 0, 0, 0]
/-- Recover: the parts and the error. -/
def recP (l a : Int) : List Int := if l < 0 then z5 else if a < 1 then z5 else if l ≤ a then [0, 0, 0, a - l, l] else [0, 0, 0, 0, a]
def recE (l a : Int) : Int := if l < 0 then 2 else if a < 1 then 4 else 0
end WatM
abbrev z5o : Obj := .cells #[.int .i64 0, .int .i64 0, .int .i64 0, .int .i64 0, .int .i64 0] 23
theorem infoPt : (Try.prog.info? 23).map (·.size) = some 5 := by kernel_rfl
theorem infoP {a b c d e : Int} : (Try.prog.info? 23).map (·.size) = some (bkL [a, b, c, d, e]).length := infoPt
end Go.Proofs.Ytplebplpachgiaa
