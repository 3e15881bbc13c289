/-
  Ours: a book's cells, as types have them.
-/
import Derived.Test.YthepahhidmihmaaLedOwn
namespace Go.Proofs.Ythepahhidmihmaa
open Go.RowKit LedM

theorem cellsBk : (Try.prog.info? 25).map (·.size) = some 12 := by kernel_rfl
theorem cellsNet : (Try.prog.info? 23).map (·.size) = some 12 := by kernel_rfl
theorem index_net {l : List Int} (k : Nat) (hl : l.length = 12) (hk : k < 12) (w : World) : (Instr.index 23 (.agg (bkL l).toArray) (.int .i64 (k : Int))).run Try.prog w = .ok (.int .i64 (l.getD k 0)) w :=
  run_index_one 23 2 12 _ _ k _ Try.underlying23 hk Try.underlying2 rfl (by kernel_rfl) (by rw [List.getElem?_toArray]; exact bkL_at (by omega)) w
end Go.Proofs.Ythepahhidmihmaa
