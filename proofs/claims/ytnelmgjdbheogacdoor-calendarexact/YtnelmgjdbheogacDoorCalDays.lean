/-
  Ours: the walk of CalendarDays.
-/
import Derived.Test.YtnelmgjdbheogacDoorCalRef2
namespace Go.Proofs.YtnelmgjdbheogacDoor
open Go.RowKit CalM

theorem civil_both (d : Int) : ∃ (y m k : Int) (b : Bool), Hid (∀ w, TabA w → Calls Tryd.prog 15 #[.int .i64 d] w fun e w' => e = .returned (.tuple #[.agg #[.int .i64 y, .int .i64 m, .int .i64 k], .bool b]) ∧ ∃ o, w' = w.alloc o) ∧ Hid (∀ w, Calls Tryd.prog 17 #[.int .i64 d] w fun e w' => e = .returned (.tuple #[.agg #[.int .i64 y, .int .i64 m, .int .i64 k], .bool b]) ∧ ∃ o, w' = w.alloc o) := by
  by_cases h : 1 ≤ d ∧ d ≤ 3652059
  · obtain ⟨y, m, k, hk, hd⟩ := civil_exists d h.1 h.2
    exact ⟨y, m, k, true, fun w hA => civil_at y m k d hk hd w hA, fun w => refCivil_at y m k d hk hd w⟩
  · exact ⟨0, 0, 0, false, fun w _ => civil_no d h w, fun w => refCivil_no d h w⟩
theorem week_both (d : Int) : ∃ (n : Int) (b : Bool), Hid (∀ w, Calls Tryd.prog 23 #[.int .i64 d] w fun e w' => e = .returned (.tuple #[.int .i64 n, .bool b]) ∧ w' = w) ∧ Hid (∀ w, Calls Tryd.prog 24 #[.int .i64 d] w fun e w' => e = .returned (.tuple #[.int .i64 n, .bool b]) ∧ w' = w) := by
  by_cases h : 1 ≤ d ∧ d ≤ 3652059
  · exact ⟨_, true, fun w => weekday_at d _ h.1 h.2 rfl w, fun w => refWeekday_at d _ h.1 h.2 rfl w⟩
  · exact ⟨0, false, fun w => weekday_no d h w, fun w => refWeekday_no d h w⟩

set_option maxHeartbeats 2000000 in
theorem days_walk (day : Int) (_ : -9223372036854775808 ≤ day) (_ : day ≤ 9223372036854775807) (w : World) (hA : TabA w) :
    Calls Tryd.prog 10 #[.int .i64 day] w fun e w' => e = .returned (.bool true) ∧ Up w w' := by
  obtain ⟨y, m, k, b, C1, C2⟩ := civil_both day
  obtain ⟨n, c, W1, W2⟩ := week_both day
  have HA : Hid (TabA w) := hA
  clear hA
  go_enter Tryd.func10, Tryd.ntmps10
  go_wp2_with fail
  refine (C1.out _ (by repeat (first | exact HA.out | refine TabA.al ?_ _))).mono ?_
  rintro e w1 ⟨rfl, o1, hw⟩; rw [hw]; clear hw w1
  go_wp2_with fail
  refine (C2.out _).mono ?_
  rintro e w1 ⟨rfl, o2, hw⟩; rw [hw]; clear hw w1
  go_wp2_with fail
  refine (W1.out _).mono ?_
  rintro e w1 ⟨rfl, hw⟩; rw [hw]; clear hw w1
  go_wp2_with fail
  refine (W2.out _).mono ?_
  rintro e w1 ⟨rfl, hw⟩; rw [hw]; clear hw w1
  go_wp2_with fail
  go_ret
  exact ⟨ret_bool (by simp), by repeat (first | exact Up.refl _ | refine up_drewN ?_ _ | refine Up.alloc ?_ _)⟩
end Go.Proofs.YtnelmgjdbheogacDoor
