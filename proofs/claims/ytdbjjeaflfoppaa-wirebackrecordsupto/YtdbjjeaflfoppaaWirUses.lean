/-
  Ours: the reference's table of fields.
-/
import Derived.Test.YtdbjjeaflfoppaaWirWhole
namespace Go.Proofs.Ytdbjjeaflfoppaa
open Go.RowKit

/-- The reference's answer for a mask. -/
def usesV (r : Option Nat) : Value := match r with
  | some m => .agg #[.bool false, .bool (m % 2 == 1), .bool (m / 2 % 2 == 1), .bool (m / 4 % 2 == 1), .bool (m / 8 % 2 == 1), .bool (m / 16 % 2 == 1), .bool (m / 32 % 2 == 1)]
  | none => .agg #[.bool true, .bool false, .bool false, .bool false, .bool false, .bool false, .bool false]

theorem below_own {w a b : World} (h : Below w.heap.size w a) (g : a.grownBy b (some w.heap.size)) : Below w.heap.size w b := by
  have t := grownBy_trans (grownBy_below h (some w.heap.size)) g
  exact ⟨t.os, t.tape, t.output, t.size, fun k hk => t.block k hk (fun e => by injection e with e; omega)⟩

end Go.Proofs.Ytdbjjeaflfoppaa
