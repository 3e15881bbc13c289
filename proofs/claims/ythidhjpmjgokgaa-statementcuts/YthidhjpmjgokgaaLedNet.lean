/-
  Ours: a book's cells, as types have them.
-/
import Derived.Test.YthidhjpmjgokgaaLedOwn
namespace Go.Proofs.Ythidhjpmjgokgaa
open Go.RowKit LedM

theorem cellsBk : (Try.prog.info? 26).map (·.size) = some 12 := by kernel_rfl
theorem cellsNet : (Try.prog.info? 24).map (·.size) = some 12 := by kernel_rfl
theorem index_net {l : List Int} (k : Nat) (hl : l.length = 12) (hk : k < 12) (w : World) : (Instr.index 24 (.agg (bkL l).toArray) (.int .i64 (k : Int))).run Try.prog w = .ok (.int .i64 (l.getD k 0)) w :=
  run_index_one 24 2 12 _ _ k _ Try.underlying24 hk Try.underlying2 rfl (by kernel_rfl) (by rw [List.getElem?_toArray]; exact bkL_at (by omega)) w
end Go.Proofs.Ythidhjpmjgokgaa
