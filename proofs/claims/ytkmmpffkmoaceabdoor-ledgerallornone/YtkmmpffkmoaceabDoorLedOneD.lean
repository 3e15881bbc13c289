/-
  Ours: LedgerAllOrNone, whole.
-/
import Derived.Test.YtkmmpffkmoaceabDoorLedOneA
import Derived.Test.YtkmmpffkmoaceabDoorLedOneB
import Derived.Test.YtkmmpffkmoaceabDoorLedOneC
namespace Go.Proofs.YtkmmpffkmoaceabDoor
open Go.RowKit LedM

theorem allOrNone_any (l : List Int) (d c a : Int) (w : World) (hl : BkOk l) (hd : i64 d) (hc : i64 c) (ha : i64 a) (hT : TabD w) :
    Calls Tryd.prog 3 #[.agg (bkL l).toArray, .int .i64 d, .int .i64 c, .int .i64 a] w fun e w' => e = .returned (.bool true) ∧ Below w.heap.size w w' := by
  cases h1 : isA d
  · exact one_bad_any l d c a w hl hd hc ha hT (.inl h1)
  cases h2 : isA c
  · exact one_bad_any l d c a w hl hd hc ha hT (.inr (.inl h2))
  by_cases h3 : d = c
  · exact one_bad_any l d c a w hl hd hc ha hT (.inr (.inr h3))
  by_cases hz : postE l [⟨d, c, a⟩] = 0
  · exact one_tak_any l d c a w hl hd hc ha hT h1 h2 h3 hz
  · exact one_ref_any l d c a w hl hd hc ha hT h1 h2 h3 hz
end Go.Proofs.YtkmmpffkmoaceabDoor
