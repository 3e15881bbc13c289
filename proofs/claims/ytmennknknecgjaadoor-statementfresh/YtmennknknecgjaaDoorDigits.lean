/-
  Ours: the contract of arrearsref1.digits.
-/
import Derived.Test.YtmennknknecgjaaDoorProg
import Derived.Test.YtmennknknecgjaaDoorOwn
namespace Go.Proofs.YtmennknknecgjaaDoor
open Go.RowKit

theorem Tryd.info3 : (Tryd.prog.info? 3).map (fun i => (i.zero, i.size, i.bytes)) = some (some (.int .i64 0), 1, 8) := by kernel_rfl

/-- The lowest n digits of m in base two, the lowest first. -/
def bin (m : Nat) : Nat → List Int
  | 0 => []
  | n + 1 => bin m n ++ [((m / 2 ^ n % 2 : Nat) : Int)]
theorem bin_length (m : Nat) : ∀ n, (bin m n).length = n
  | 0 => rfl
  | n + 1 => by simp [bin, bin_length m n]

end Go.Proofs.YtmennknknecgjaaDoor
