/-
  Ours: from a row's condition on the two tables to what the walks ask.
-/
import Derived.Test.YtmennknknecgjaaDoorRows
import Derived.Test.YtmennknknecgjaaDoorCalCivil
import Derived.Lib.LaidTab
import Derived.MakeChecks
import Derived.LaidHandle
import Derived.Carry
import Derived.Stop.LaidErr
namespace Go.Proofs.YtmennknknecgjaaDoor
open Go.RowKit CalM

theorem own : ownKnob Tryd.prog.godebug = none := by kernel_rfl
theorem bounds {x : Int} (h : (Lit.int .i64 x).wf = true) : -9223372036854775808 ≤ x ∧ x ≤ 9223372036854775807 := by
  simp [Lit.wf, IntKind.min, IntKind.max, IntKind.signed, IntKind.bits] at h
  exact ⟨by omega, by omega⟩

/-- The table of the months' lengths lies where the program looks it up. -/
def lenT (m : Int) : Int := if m = 2 then 28 else if m = 4 ∨ m = 6 ∨ m = 9 ∨ m = 11 then 30 else 31
theorem gA : Tryd.prog.globalNamed "arrears/calendar.ahead" = some 2 := by kernel_rfl
theorem tyA : (Tryd.prog.globals[2]?).map (·.type) = some 70 := by kernel_rfl
theorem cellsI : Tryd.prog.cellsOf 3 = 1 := by kernel_rfl
theorem cellsT : Tryd.prog.cellsOf 70 = 13 := by kernel_rfl

theorem tabA_is {W : World} (h : Lib.TabIs Tryd.prog W "arrears/calendar.ahead" .i64 aheadT) : TabA W := by
  intro m m1 m2
  rw [h.cell gA m.toNat (by simp [aheadT]; omega)]
  rcases month12 m1 m2 with e | e | e | e | e | e | e | e | e | e | e | e <;> subst e <;> rfl
theorem tabA_of {W : World} (h : laidMetH Tryd.prog [("arrears/calendar.ahead", Rows.laid_arrears_calendar_ahead)] W) : TabA W := by
  rw [Go.MakeChecks.laidMetH_plain _ _ _ (by kernel_rfl)] at h
  exact tabA_is (Lib.tabIs_of_head (zs := aheadT) gA tyA Tryd.underlying70 Tryd.underlying3 cellsI cellsT h)
end Go.Proofs.YtmennknknecgjaaDoor
