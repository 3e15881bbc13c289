/-
  Ours: a book's cells, as types have them.
-/
import Derived.Test.YtmennknknecgjaaDoorLedOwn
namespace Go.Proofs.YtmennknknecgjaaDoor
open Go.RowKit LedM

theorem cellsBk : (Tryd.prog.info? 27).map (·.size) = some 12 := by kernel_rfl
theorem cellsNet : (Tryd.prog.info? 25).map (·.size) = some 12 := by kernel_rfl
theorem index_net {l : List Int} (k : Nat) (hl : l.length = 12) (hk : k < 12) (w : World) : (Instr.index 25 (.agg (bkL l).toArray) (.int .i64 (k : Int))).run Tryd.prog w = .ok (.int .i64 (l.getD k 0)) w :=
  run_index_one 25 2 12 _ _ k _ Tryd.underlying25 hk Tryd.underlying2 rfl (by kernel_rfl) (by rw [List.getElem?_toArray]; exact bkL_at (by omega)) w
end Go.Proofs.YtmennknknecgjaaDoor
