/-
  Ours: a book's cells, as types have them.
-/
import Derived.Test.YtplebplpachgiabDoorLedOwn
namespace Go.Proofs.YtplebplpachgiabDoor
open Go.RowKit LedM

theorem cellsBk : (Tryd.prog.info? 34).map (·.size) = some 12 := by kernel_rfl
theorem cellsNet : (Tryd.prog.info? 32).map (·.size) = some 12 := by kernel_rfl
theorem index_net {l : List Int} (k : Nat) (hl : l.length = 12) (hk : k < 12) (w : World) : (Instr.index 32 (.agg (bkL l).toArray) (.int .i64 (k : Int))).run Tryd.prog w = .ok (.int .i64 (l.getD k 0)) w :=
  run_index_one 32 2 12 _ _ k _ Tryd.underlying32 hk Tryd.underlying2 rfl (by kernel_rfl) (by rw [List.getElem?_toArray]; exact bkL_at (by omega)) w
end Go.Proofs.YtplebplpachgiabDoor
