/-
  Ours: the walk of CalendarMonthSteps.
-/
import Derived.Test.YtnelmgjdbheogaaDoorCalMon
import Derived.Test.YtnelmgjdbheogaaDoorCalGreg2
namespace Go.Proofs.YtnelmgjdbheogaaDoor
open Go.RowKit CalM

theorem step_ok {q a : Int} (q1 : 0 ≤ q) (q2 : q ≤ 119987) (a1 : 1 ≤ a) (a2 : a ≤ 31) : Ok (q / 12 + 1) (q % 12 + 1) (landI q a) := by
  have l1 := len_low (q / 12 + 1) (q % 12 + 1)
  refine ⟨by omega, by omega, by omega, by omega, ?_, ?_⟩ <;> unfold landI <;> omega

set_option maxHeartbeats 4000000 in
theorem steps_out (day a b anchor : Int) (h : ¬(1 ≤ day ∧ day ≤ 3652059 ∧ 1 ≤ anchor ∧ anchor ≤ 31 ∧ -200000 ≤ a ∧ a ≤ 200000 ∧ -200000 ≤ b ∧ b ≤ 200000)) (w : World) (hL : TabL w) (hA : TabA w) :
    Calls Tryd.prog 6 #[.int .i64 day, .int .i64 a, .int .i64 b, .int .i64 anchor] w fun e w' => e = .returned (.bool true) ∧ Up w w' := by
  have HO : Hid (¬(1 ≤ day ∧ day ≤ 3652059 ∧ 1 ≤ anchor ∧ anchor ≤ 31 ∧ -200000 ≤ a ∧ a ≤ 200000 ∧ -200000 ≤ b ∧ b ≤ 200000)) := h
  have AM : Hid (∀ w : World, TabA w → TabL w → Calls Tryd.prog 15 #[.int .i64 1, .int .i64 0, .int .i64 31] w fun e w' => e = .returned (.tuple #[.int .i64 (stepN 0 31), .bool true]) ∧ Up w w') := fun w hA hL => addMonths_up 1 1 1 1 0 31 0 ok_first (by decide) (by omega) (by omega) (by omega) w hA hL
  have HA : Hid (TabA w) := hA
  have HL : Hid (TabL w) := hL
  clear h hA hL
  go_enter Tryd.func6, Tryd.ntmps6
  go_wp2_with fail
  all_goals first
    | (exfalso
       exact HO.out (by omega))
    | (refine (AM.out _ HA.out HL.out).mono ?_
       rintro e w1 ⟨rfl, hw⟩
       go_wp2_with fail
       go_ret
       exact ⟨rfl, hw⟩)
end Go.Proofs.YtnelmgjdbheogaaDoor
