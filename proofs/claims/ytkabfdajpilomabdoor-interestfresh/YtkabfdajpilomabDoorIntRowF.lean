/-
  Ours: a plan's answer as rows.
-/
import Derived.Test.YtkabfdajpilomabDoorIntPlan
namespace Go.Proofs.YtkabfdajpilomabDoor
open Go.RowKit IntM CalM

theorem RowI.form2 {base : Nat} {w : World} {v : Value} {rs : List (Int × Int × Int)} (h : RowI base w v rs) : ∃ a cap, v = .slice a rs.length cap ∧ InstOk w a rs := by
  refine RowI.form h ?_
  rcases h.2 with ⟨_, h0⟩ | ⟨g, cap, cur, rfl, hb, hg, hn, hm, hs, ht⟩
  · omega
  · unfold maxLen at hm; omega
theorem PlanAns.row {base : Nat} {w : World} {v : Value} {o : Option (List (Int × Int × Int))} (h : PlanAns base w v o) : RowI base w v (o.getD []) := by
  cases o with
  | none => obtain rfl : v = .slice none 0 0 := h; exact RowI.nil _ _
  | some rs => exact h

end Go.Proofs.YtkabfdajpilomabDoor
