/-
  Ours: frame.Encode and frame.Join.
-/
import Derived.Test.YteflbdlfjebccaaDoorFrmWord
import Derived.Test.YteflbdlfjebccaaDoorDskNear
namespace Go.Proofs.YteflbdlfjebccaaDoor
open Go.RowKit

theorem enc_eq (p : List Nat) : CrcM.enc p = CrcM.four p.length ++ p ++ CrcM.four (CrcM.sum (CrcM.four p.length ++ p)) := by unfold CrcM.enc; rfl
/-- New bytes, and true. -/
def NewT (w : World) (bs : List Nat) (e : Ending) (w' : World) : Prop := ∃ a c, e = .returned (.tuple #[.slice a bs.length c, .bool true]) ∧ RowB 5 w.heap.size w' (.slice a bs.length c) bs ∧ Below w.heap.size w w'

end Go.Proofs.YteflbdlfjebccaaDoor
