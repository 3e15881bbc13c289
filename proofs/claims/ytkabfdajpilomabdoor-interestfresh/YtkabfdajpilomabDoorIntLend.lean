/-
  Ours: the statements' helper lending.
-/
import Derived.Test.YtkabfdajpilomabDoorIntRate
namespace Go.Proofs.YtkabfdajpilomabDoor
open Go.RowKit

def lendB (P r n : Int) : Bool := decide (1 ≤ P ∧ P ≤ 10000000000000 ∧ 0 ≤ r ∧ r ≤ 100000 ∧ 1 ≤ n ∧ n ≤ 120)

theorem lending_at (P r n : Int) (b : Bool) (h : lendB P r n = b) (w : World) :
    Calls Tryd.prog 7 #[.int .i64 P, .int .i64 r, .int .i64 n] w fun e w' => e = .returned (.bool b) ∧ w' = w := by
  subst h
  unfold lendB
  go_enter Tryd.func7, Tryd.ntmps7
  go_wp2_with fail
  all_goals
    go_ret
    refine ⟨ret_boolI ?_, rfl⟩
    rw [Bool.eq_iff_iff]
    simp
    try omega

end Go.Proofs.YtkabfdajpilomabDoor
