/-
  Ours: the walk of CalendarCycle.
-/
import Derived.Test.YtnelmgjdbheogaaDoorCalNum
namespace Go.Proofs.YtnelmgjdbheogaaDoor
open Go.RowKit CalM

theorem same_at (y m d y' m' d' : Int) (b : Bool) (hb : decide (y = y' ∧ m = m' ∧ d = d') = b) (w : World) :
    Calls Tryd.prog 11 #[.agg #[.int .i64 y, .int .i64 m, .int .i64 d], .agg #[.int .i64 y', .int .i64 m', .int .i64 d']] w fun e w' => e = .returned (.bool b) ∧ ∃ o p, w' = (w.alloc o).alloc p := by
  by_cases h1 : y = y'
  · by_cases h2 : m = m'
    · go_enter Tryd.func11, Tryd.ntmps11
      go_wp2
      go_ret
      exact ⟨ret_bool (by rw [← hb, Bool.eq_iff_iff]; simp [h1, h2]), _, _, rfl⟩
    · go_enter Tryd.func11, Tryd.ntmps11
      go_wp2
      go_ret
      exact ⟨ret_bool (by rw [← hb, Bool.eq_iff_iff]; simp [h1, h2]), _, _, rfl⟩
  · go_enter Tryd.func11, Tryd.ntmps11
    go_wp2
    go_ret
    exact ⟨ret_bool (by rw [← hb, Bool.eq_iff_iff]; simp [h1]), _, _, rfl⟩


set_option maxHeartbeats 1000000 in
theorem cycle_walk (day : Int) (_ : -9223372036854775808 ≤ day) (_ : day ≤ 9223372036854775807) (w : World) (hA : TabA w) :
    Calls Tryd.prog 3 #[.int .i64 day] w fun e w' => e = .returned (.bool true) ∧ Up w w' := by
  have CA : Hid (∀ (y m k d : Int) (w : World), TabA w → Ok y m k → dA y m + k = d → Calls Tryd.prog 9 #[.int .i64 d] w fun e w' => e = .returned (.tuple #[.agg #[.int .i64 y, .int .i64 m, .int .i64 k], .bool true]) ∧ ∃ o, w' = w.alloc o) := fun y m k d w hA h hd => civil_at y m k d h hd w hA
  have HA : Hid (TabA w) := hA
  clear hA
  by_cases h1 : 1 ≤ day
  · by_cases h2 : day ≤ 3505962
    · obtain ⟨y, m, k, hk, hd⟩ := civil_exists day h1 (by omega)
      have y9 : y ≤ 9599 := by
        obtain ⟨a1, a2, a3, a4, a5, a6⟩ := hk
        have l := dA_low y m a3 a4
        rcases Int.lt_or_le 9599 y with g | g
        · have := yA_mono (a := 9600) (b := y) (by omega)
          have e : yA 9600 = 3505962 := by decide
          omega
        · exact g
      have hk2 : Ok (y + 400) m k := by
        obtain ⟨a1, a2, a3, a4, a5, a6⟩ := hk
        refine ⟨by omega, by omega, a3, a4, a5, ?_⟩
        unfold lenI at *; rw [lp_cycle]; exact a6
      have hd2 : dA (y + 400) m + k = day + 146097 := by rw [dA_cycle]; omega
      have yb : 1 ≤ y := hk.1
      have C1 : Hid (∀ w : World, TabA w → Calls Tryd.prog 9 #[.int .i64 day] w fun e w' => e = .returned (.tuple #[.agg #[.int .i64 y, .int .i64 m, .int .i64 k], .bool true]) ∧ ∃ o, w' = w.alloc o) := fun w hw => CA.out y m k day w hw hk hd
      have C2 : Hid (∀ w : World, TabA w → Calls Tryd.prog 9 #[.int .i64 (day + 146097)] w fun e w' => e = .returned (.tuple #[.agg #[.int .i64 (y + 400), .int .i64 m, .int .i64 k], .bool true]) ∧ ∃ o, w' = w.alloc o) := fun w hw => CA.out _ m k _ w hw hk2 hd2
      have W1 : Hid (∀ w : World, Calls Tryd.prog 10 #[.int .i64 day] w fun e w' => e = .returned (.tuple #[.int .i64 ((day - 1) % 7 + 1), .bool true]) ∧ w' = w) := fun w => weekday_at day _ h1 (by omega) rfl w
      have W2 : Hid (∀ w : World, Calls Tryd.prog 10 #[.int .i64 (day + 146097)] w fun e w' => e = .returned (.tuple #[.int .i64 ((day - 1) % 7 + 1), .bool true]) ∧ w' = w) := fun w => weekday_at (day + 146097) _ (by omega) (by omega) (by omega) w
      clear hk hd hk2 hd2
      generalize (day - 1) % 7 + 1 = wd at *
      go_enter Tryd.func3, Tryd.ntmps3
      go_wp2_with fail
      refine (CA.out 1 1 1 1 _ (by repeat (first | exact HA.out | refine TabA.al ?_ _)) ⟨by decide, by decide, by decide, by decide, by decide, by decide⟩ (by decide)).mono ?_
      rintro e w1 ⟨rfl, o, hw⟩; rw [hw]; clear hw w1
      go_wp2_with fail
      refine (C1.out _ (by repeat (first | exact HA.out | refine TabA.al ?_ _))).mono ?_
      rintro e w1 ⟨rfl, o2, hw⟩; rw [hw]; clear hw w1
      go_wp2_with fail
      refine (C2.out _ (by repeat (first | exact HA.out | refine TabA.al ?_ _))).mono ?_
      rintro e w1 ⟨rfl, o3, hw⟩; rw [hw]; clear hw w1
      go_wp2_with fail
      refine (W1.out _).mono ?_
      rintro e w1 ⟨rfl, hw⟩; rw [hw]; clear hw w1
      go_wp2_with fail
      refine (W2.out _).mono ?_
      rintro e w1 ⟨rfl, hw⟩; rw [hw]; clear hw w1
      go_wp2_with fail
      refine (same_at _ _ _ _ _ _ true (by simp) _).mono ?_
      rintro e w1 ⟨rfl, o4, o5, hw⟩; rw [hw]; clear hw w1
      go_wp2_with fail
      go_ret
      exact ⟨rfl, by repeat (first | exact Up.refl _ | refine Up.alloc ?_ _)⟩
    · go_enter Tryd.func3, Tryd.ntmps3
      go_wp2_with fail
      refine (CA.out 1 1 1 1 _ (by repeat (first | exact HA.out | refine TabA.al ?_ _)) ⟨by decide, by decide, by decide, by decide, by decide, by decide⟩ (by decide)).mono ?_
      rintro e w1 ⟨rfl, o, hw⟩; rw [hw]; clear hw w1
      go_wp2_with fail
      go_ret
      exact ⟨rfl, by repeat (first | exact Up.refl _ | refine Up.alloc ?_ _)⟩
  · go_enter Tryd.func3, Tryd.ntmps3
    go_wp2_with fail
    refine (CA.out 1 1 1 1 _ (by repeat (first | exact HA.out | refine TabA.al ?_ _)) ⟨by decide, by decide, by decide, by decide, by decide, by decide⟩ (by decide)).mono ?_
    rintro e w1 ⟨rfl, o, hw⟩; rw [hw]; clear hw w1
    go_wp2_with fail
    go_ret
    exact ⟨rfl, by repeat (first | exact Up.refl _ | refine Up.alloc ?_ _)⟩
end Go.Proofs.YtnelmgjdbheogaaDoor
