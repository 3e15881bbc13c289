/-
  Ours: a book's cells, as types have them.
-/
import Derived.Test.YtgdmkcbbomfmdaaGreatDoorLedOwn
namespace Go.Proofs.YtgdmkcbbomfmdaaGreatDoor
open Go.RowKit LedM

theorem cellsBk : (Tryz.prog.info? 31).map (·.size) = some 12 := by kernel_rfl
theorem cellsNet : (Tryz.prog.info? 29).map (·.size) = some 12 := by kernel_rfl
theorem index_net {l : List Int} (k : Nat) (hl : l.length = 12) (hk : k < 12) (w : World) : (Instr.index 29 (.agg (bkL l).toArray) (.int .i64 (k : Int))).run Tryz.prog w = .ok (.int .i64 (l.getD k 0)) w :=
  run_index_one 29 2 12 _ _ k _ Tryz.underlying29 hk Tryz.underlying2 rfl (by kernel_rfl) (by rw [List.getElem?_toArray]; exact bkL_at (by omega)) w
end Go.Proofs.YtgdmkcbbomfmdaaGreatDoor
