/-
  Ours: LedgerSides, whole.
-/
import Derived.Test.YtkmmpffkmoaceabDoorLedSidA
import Derived.Test.YtkmmpffkmoaceabDoorLedSidB
namespace Go.Proofs.YtkmmpffkmoaceabDoor
open Go.RowKit LedM

theorem sides_any (l : List Int) (a : Int) (w : World) (hl : BkOk l) (a0 : -9223372036854775808 ≤ a) (a1 : a ≤ 9223372036854775807) (hT : TabD w) :
    Calls Tryd.prog 5 #[.agg (bkL l).toArray, .int .i64 a] w fun e w' => e = .returned (.bool true) ∧ Below w.heap.size w w' := by
  cases h1 : isA a
  · exact sides_out l a w hl a0 a1 hT h1
  · have hn : 0 ≤ a ∧ a < 12 := by simpa [isA] using h1
    exact sides_in l a w hl a0 a1 hT a.toNat (by omega) (by omega)
end Go.Proofs.YtkmmpffkmoaceabDoor
