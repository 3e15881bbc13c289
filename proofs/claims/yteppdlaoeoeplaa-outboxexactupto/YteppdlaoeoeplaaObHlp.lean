/-
  Ours: the statements' tick, place, only, wakes.
-/
import Derived.Test.YteppdlaoeoeplaaObSam
import Derived.Test.YteppdlaoeoeplaaObRet
namespace Go.Proofs.Yteppdlaoeoeplaa
open Go.RowKit ObM LedM PolM
set_option linter.unusedSimpArgs false

def tickN (now wt : Int) : Int := if wt < 0 ∨ wt > 1000 then now else now + wt
theorem tickN_ge {now wt : Int} : now ≤ tickN now wt ∧ tickN now wt ≤ now + 1000 := by unfold tickN; split <;> omega
/-- The packets of one number. -/
def onlyL (ps : List Pk) (id : Int) : List Pk := ps.filter (fun p => decide (p.id = id))
theorem only_snoc {ps : List Pk} {id : Int} {k : Nat} {p : Pk} (h : ps[k]? = some p) : onlyL (ps.take (k + 1)) id = onlyL (ps.take k) id ++ (if p.id = id then [p] else []) := by
  unfold onlyL
  rw [List.take_add_one, h, List.filter_append]
  congr 1
  by_cases e : p.id = id
  · rw [if_pos e]; simp [e]
  · rw [if_neg e]; simp [e]

end Go.Proofs.Yteppdlaoeoeplaa
