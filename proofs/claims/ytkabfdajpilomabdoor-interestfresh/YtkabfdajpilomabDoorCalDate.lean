/-
  Ours: a day's date as a function.
-/
import Derived.Test.YtkabfdajpilomabDoorCalMon
namespace Go.Proofs.YtkabfdajpilomabDoor
open Go.RowKit CalM

noncomputable def dateOf (d : Int) : Int × Int × Int := if h : 1 ≤ d ∧ d ≤ 3652059 then
  (Classical.choose (civil_exists d h.1 h.2), Classical.choose (Classical.choose_spec (civil_exists d h.1 h.2)), Classical.choose (Classical.choose_spec (Classical.choose_spec (civil_exists d h.1 h.2)))) else (0, 0, 0)
noncomputable def dY (d : Int) : Int := (dateOf d).1
noncomputable def dM (d : Int) : Int := (dateOf d).2.1
noncomputable def dK (d : Int) : Int := (dateOf d).2.2

theorem date_spec (d : Int) (h1 : 1 ≤ d) (h2 : d ≤ 3652059) : Ok (dY d) (dM d) (dK d) ∧ dA (dY d) (dM d) + dK d = d := by
  unfold dY dM dK dateOf
  rw [dif_pos ⟨h1, h2⟩]
  exact Classical.choose_spec (Classical.choose_spec (Classical.choose_spec (civil_exists d h1 h2)))
theorem date_is {y m k d : Int} (h : Ok y m k) (hd : dA y m + k = d) : dY d = y ∧ dM d = m ∧ dK d = k := by
  have r := day_range h
  rw [hd] at r
  obtain ⟨a, b⟩ := date_spec d r.1 r.2
  exact date_unique a h (b.trans hd.symm)

end Go.Proofs.YtkabfdajpilomabDoor
