/-
  Ours: the walk of CalendarDates.
-/
import Derived.Test.YtnelmgjdbheogacDoorCalRef
namespace Go.Proofs.YtnelmgjdbheogacDoor
open Go.RowKit CalM

theorem refLeap_at (y : Int) (h1 : 1 ≤ y) (h2 : y ≤ 9999) (b : Bool) (hb : leapB y = b) (w : World) :
    Calls Tryd.prog 35 #[.int .i64 y] w fun e w' => e = .returned (.bool b) ∧ w' = w := by
  have DV : Hid (∀ w, Calls Tryd.prog 47 #[.int .i64 y] w fun e w' => e = .returned (.bool b) ∧ w' = w) := fun w => divides_at y h1 b hb w
  clear hb
  go_enter Tryd.func35, Tryd.ntmps35
  go_wp2_with fail
  refine (DV.out _).mono ?_
  rintro e w1 ⟨rfl, hw⟩; rw [hw]; clear hw w1
  go_wp2_with fail
  go_ret
  exact ⟨rfl, rfl⟩
theorem refLeap_no (y : Int) (h : ¬(1 ≤ y ∧ y ≤ 9999)) (w : World) :
    Calls Tryd.prog 35 #[.int .i64 y] w fun e w' => e = .returned (.bool false) ∧ w' = w := by
  by_cases h1 : 1 ≤ y
  · have h2 : ¬ y ≤ 9999 := fun g => h ⟨h1, g⟩
    clear h
    go_enter Tryd.func35, Tryd.ntmps35
    go_wp2_with fail
    go_ret
    exact ⟨rfl, rfl⟩
  · clear h
    go_enter Tryd.func35, Tryd.ntmps35
    go_wp2_with fail
    go_ret
    exact ⟨rfl, rfl⟩

theorem leap_both (y : Int) : ∃ b : Bool, Hid (∀ w, Calls Tryd.prog 34 #[.int .i64 y] w fun e w' => e = .returned (.bool b) ∧ w' = w) ∧ Hid (∀ w, Calls Tryd.prog 35 #[.int .i64 y] w fun e w' => e = .returned (.bool b) ∧ w' = w) := by
  by_cases h : 1 ≤ y ∧ y ≤ 9999
  · exact ⟨_, fun w => leap_at y h.1 h.2 _ rfl w, fun w => refLeap_at y h.1 h.2 _ rfl w⟩
  · exact ⟨_, fun w => leap_no y h w, fun w => refLeap_no y h w⟩
theorem len_both (y m : Int) : ∃ n : Int, Hid (∀ w, TabL w → Calls Tryd.prog 25 #[.int .i64 y, .int .i64 m] w fun e w' => e = .returned (.int .i64 n) ∧ w' = w) ∧ Hid (∀ w, Calls Tryd.prog 27 #[.int .i64 y, .int .i64 m] w fun e w' => e = .returned (.int .i64 n) ∧ w' = w) := by
  by_cases h : 1 ≤ y ∧ y ≤ 9999 ∧ 1 ≤ m ∧ m ≤ 12
  · exact ⟨_, fun w hL => monthLen_at y m _ h.1 h.2.1 h.2.2.1 h.2.2.2 rfl w hL, fun w => refMonthLen_at y m _ h.1 h.2.1 h.2.2.1 h.2.2.2 rfl w⟩
  · exact ⟨_, fun w _ => monthLen_no y m h w, fun w => refMonthLen_no y m h w⟩
theorem num_both (y m k : Int) : ∃ (n : Int) (b : Bool), Hid (∀ w, TabA w → TabL w → Calls Tryd.prog 12 #[.agg #[.int .i64 y, .int .i64 m, .int .i64 k]] w fun e w' => e = .returned (.tuple #[.int .i64 n, .bool b]) ∧ ∃ o n, w' = (w.alloc o).drewN n) ∧ Hid (∀ w, Calls Tryd.prog 14 #[.agg #[.int .i64 y, .int .i64 m, .int .i64 k]] w fun e w' => e = .returned (.tuple #[.int .i64 n, .bool b]) ∧ ∃ o n, w' = (w.alloc o).drewN n) := by
  by_cases h : Ok y m k
  · exact ⟨_, _, fun w hA hL => number_at y m k _ h rfl w hA hL, fun w => refNumber_at y m k _ h rfl w⟩
  · exact ⟨_, _, fun w _ hL => number_no y m k h w hL, fun w => refNumber_no y m k h w⟩

set_option maxHeartbeats 1000000 in
theorem dates_walk (year : Int) (_ : -9223372036854775808 ≤ year) (_ : year ≤ 9223372036854775807) (month : Int) (_ : -9223372036854775808 ≤ month) (_ : month ≤ 9223372036854775807) (day : Int) (_ : -9223372036854775808 ≤ day) (_ : day ≤ 9223372036854775807) (w : World) (hL : TabL w) (hA : TabA w) :
    Calls Tryd.prog 19 #[.int .i64 year, .int .i64 month, .int .i64 day] w fun e w' => e = .returned (.bool true) ∧ Up w w' := by
  have HA : Hid (TabA w) := hA
  have HL : Hid (TabL w) := hL
  clear hA hL
  obtain ⟨b, L1, L2⟩ := leap_both year
  obtain ⟨n, M1, M2⟩ := len_both year month
  obtain ⟨k, c, N1, N2⟩ := num_both year month day
  go_enter Tryd.func19, Tryd.ntmps19
  go_wp2_with fail
  refine (L1.out _).mono ?_
  rintro e w1 ⟨rfl, hw⟩; rw [hw]; clear hw w1
  go_wp2_with fail
  refine (L2.out _).mono ?_
  rintro e w1 ⟨rfl, hw⟩; rw [hw]; clear hw w1
  go_wp2_with fail
  refine (M1.out _ HL.out).mono ?_
  rintro e w1 ⟨rfl, hw⟩; rw [hw]; clear hw w1
  go_wp2_with fail
  refine (M2.out _).mono ?_
  rintro e w1 ⟨rfl, hw⟩; rw [hw]; clear hw w1
  go_wp2_with fail
  refine (N1.out _ HA.out HL.out).mono ?_
  rintro e w1 ⟨rfl, o1, j1, hw⟩; rw [hw]; clear hw w1
  go_wp2_with fail
  refine (N2.out _).mono ?_
  rintro e w1 ⟨rfl, o2, j2, hw⟩; rw [hw]; clear hw w1
  go_wp2_with fail
  go_ret
  exact ⟨ret_bool (by simp), by repeat (first | exact Up.refl _ | refine up_drewN ?_ _ | refine Up.alloc ?_ _)⟩
end Go.Proofs.YtnelmgjdbheogacDoor
