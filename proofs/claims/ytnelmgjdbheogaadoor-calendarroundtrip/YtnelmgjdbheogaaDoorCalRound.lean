/-
  Ours: the walk of CalendarRoundTrip.
-/
import Derived.Test.YtnelmgjdbheogaaDoorCalGreg2
namespace Go.Proofs.YtnelmgjdbheogaaDoor
open Go.RowKit CalM

theorem not_ok0 : ¬ Ok 0 0 0 := fun h => by have := h.1; omega

/-- What Civil answers for a day, and Number for the answer. -/
theorem there_back (day : Int) (b : Bool) (hb : decide (1 ≤ day ∧ day ≤ 3652059) = b) : ∃ y m k n : Int, (b = true → n = day) ∧
    Hid (∀ w : World, TabA w → Calls Tryd.prog 9 #[.int .i64 day] w fun e w' => e = .returned (.tuple #[.agg #[.int .i64 y, .int .i64 m, .int .i64 k], .bool b]) ∧ ∃ o, w' = w.alloc o) ∧
    Hid (∀ w : World, TabA w → TabL w → Calls Tryd.prog 13 #[.agg #[.int .i64 y, .int .i64 m, .int .i64 k]] w fun e w' => e = .returned (.tuple #[.int .i64 n, .bool b]) ∧ ∃ o n, w' = (w.alloc o).drewN n) := by
  by_cases h : 1 ≤ day ∧ day ≤ 3652059
  · obtain ⟨y, m, k, hk, hd⟩ := civil_exists day h.1 h.2
    rw [decide_eq_true h] at hb
    subst hb
    exact ⟨y, m, k, day, fun _ => rfl, fun w hA => civil_at y m k day hk hd w hA, fun w hA hL => number_at y m k day hk hd w hA hL⟩
  · rw [decide_eq_false h] at hb
    subst hb
    exact ⟨0, 0, 0, 0, (fun h => by cases h), fun w _ => civil_no day h w, fun w _ hL => number_no 0 0 0 not_ok0 w hL⟩

/-- What Number answers for a date, and Civil for the answer. -/
theorem back_there (y m k : Int) (b : Bool) (hb : b = true ↔ Ok y m k) : ∃ n : Int, (b = false → n = 0) ∧
    Hid (∀ w : World, TabA w → TabL w → Calls Tryd.prog 13 #[.agg #[.int .i64 y, .int .i64 m, .int .i64 k]] w fun e w' => e = .returned (.tuple #[.int .i64 n, .bool b]) ∧ ∃ o n, w' = (w.alloc o).drewN n) ∧
    Hid (b = true → ∀ w : World, TabA w → Calls Tryd.prog 9 #[.int .i64 n] w fun e w' => e = .returned (.tuple #[.agg #[.int .i64 y, .int .i64 m, .int .i64 k], .bool true]) ∧ ∃ o, w' = w.alloc o) := by
  cases b
  · have h : ¬ Ok y m k := fun g => by have := hb.2 g; cases this
    exact ⟨0, fun _ => rfl, fun w _ hL => number_no y m k h w hL, fun h => by cases h⟩
  · have h : Ok y m k := hb.1 rfl
    exact ⟨_, (fun h => by cases h), fun w hA hL => number_at y m k _ h rfl w hA hL, fun _ w hA => civil_at y m k _ h rfl w hA⟩

/-- The two draws' laws, for the walk. -/
theorem set_drewN (W : World) (n : Nat) (a : Addr) (v : Value) : (W.drewN n).setCell a v = (W.setCell a v).drewN n := rfl
theorem al_drewN (W : World) (n : Nat) (o : Obj) : (W.drewN n).alloc o = (W.alloc o).drewN n := rfl

set_option maxHeartbeats 4000000 in
theorem round_yes (day : Int) (_ : -9223372036854775808 ≤ day) (_ : day ≤ 9223372036854775807) (year : Int) (_ : -9223372036854775808 ≤ year) (_ : year ≤ 9223372036854775807) (month : Int) (_ : -9223372036854775808 ≤ month) (_ : month ≤ 9223372036854775807) (of' : Int) (_ : -9223372036854775808 ≤ of') (_ : of' ≤ 9223372036854775807) (ho : Ok year month of') (w : World) (hL : TabL w) (hA : TabA w) :
    Calls Tryd.prog 5 #[.int .i64 day, .int .i64 year, .int .i64 month, .int .i64 of'] w fun e w' => e = .returned (.bool true) ∧ Up w w' := by
  have HA : Hid (TabA w) := hA
  have HL : Hid (TabL w) := hL
  clear hA hL
  have AD := al_drewN
  have SD := set_drewN
  obtain ⟨n2, hn2, NB, CB⟩ := back_there year month of' true (by simp [ho])
  obtain ⟨a1, a2, a3, a4, a5, a6⟩ := ho
  have LN : Hid (∀ w : World, Calls Tryd.prog 14 #[.int .i64 year, .int .i64 month] w fun e w' => e = .returned (.int .i64 (lenI year month)) ∧ w' = w) := fun w => length_at year month _ a1 a3 a4 rfl w
  clear hn2
  generalize lenI year month = L at *
  rcases Int.lt_or_le day 1 with h1 | h1
  · obtain ⟨y, m, k, n, hn, CA, NA⟩ := there_back day false (decide_eq_false (by omega))
    clear hn
    go_enter Tryd.func5, Tryd.ntmps5
    go_wp2_with fail
    refine (CA.out _ (by repeat (first | exact HA.out | refine TabA.al ?_ _))).mono ?_
    rintro e w1 ⟨rfl, o1, hw⟩; rw [hw]; clear hw w1
    go_wp2_with fail
    refine (NA.out _ (by repeat (first | exact HA.out | refine TabA.al ?_ _)) (by repeat (first | exact HL.out | refine TabL.al ?_ _))).mono ?_
    rintro e w1 ⟨rfl, o2, j2, hw⟩; rw [hw]; clear hw w1
    go_wp2_with fail
    refine (NB.out _ (by repeat (first | exact HA.out | refine TabA.dr ?_ _ | refine TabA.al ?_ _)) (by repeat (first | exact HL.out | refine TabL.dr ?_ _ | refine TabL.al ?_ _))).mono ?_
    rintro e w1 ⟨rfl, o3, j3, hw⟩; rw [hw]; clear hw w1
    go_wp2_with fail
    refine (LN.out _).mono ?_
    rintro e w1 ⟨rfl, hw⟩; rw [hw]; clear hw w1
    go_wp2_with fail
    refine (CB.out (by trivial) _ (by repeat (first | exact HA.out | refine TabA.dr ?_ _ | refine TabA.al ?_ _))).mono ?_
    rintro e w1 ⟨rfl, o4, hw⟩; rw [hw]; clear hw w1
    go_wp2_with fail
    refine (same_at _ _ _ _ _ _ true (by simp) _).mono ?_
    rintro e w1 ⟨rfl, o5, o6, hw⟩; rw [hw]; clear hw w1
    go_wp2_with fail
    go_ret
    exact ⟨rfl, by repeat (first | exact Up.refl _ | refine up_drewN ?_ _ | refine Up.alloc ?_ _)⟩
  rcases Int.lt_or_le 3652059 day with h2 | h2
  · obtain ⟨y, m, k, n, hn, CA, NA⟩ := there_back day false (decide_eq_false (by omega))
    clear hn
    go_enter Tryd.func5, Tryd.ntmps5
    go_wp2_with fail
    refine (CA.out _ (by repeat (first | exact HA.out | refine TabA.al ?_ _))).mono ?_
    rintro e w1 ⟨rfl, o1, hw⟩; rw [hw]; clear hw w1
    go_wp2_with fail
    refine (NA.out _ (by repeat (first | exact HA.out | refine TabA.al ?_ _)) (by repeat (first | exact HL.out | refine TabL.al ?_ _))).mono ?_
    rintro e w1 ⟨rfl, o2, j2, hw⟩; rw [hw]; clear hw w1
    go_wp2_with fail
    refine (NB.out _ (by repeat (first | exact HA.out | refine TabA.dr ?_ _ | refine TabA.al ?_ _)) (by repeat (first | exact HL.out | refine TabL.dr ?_ _ | refine TabL.al ?_ _))).mono ?_
    rintro e w1 ⟨rfl, o3, j3, hw⟩; rw [hw]; clear hw w1
    go_wp2_with fail
    refine (LN.out _).mono ?_
    rintro e w1 ⟨rfl, hw⟩; rw [hw]; clear hw w1
    go_wp2_with fail
    refine (CB.out (by trivial) _ (by repeat (first | exact HA.out | refine TabA.dr ?_ _ | refine TabA.al ?_ _))).mono ?_
    rintro e w1 ⟨rfl, o4, hw⟩; rw [hw]; clear hw w1
    go_wp2_with fail
    refine (same_at _ _ _ _ _ _ true (by simp) _).mono ?_
    rintro e w1 ⟨rfl, o5, o6, hw⟩; rw [hw]; clear hw w1
    go_wp2_with fail
    go_ret
    exact ⟨rfl, by repeat (first | exact Up.refl _ | refine up_drewN ?_ _ | refine Up.alloc ?_ _)⟩
  · obtain ⟨y, m, k, n, hn, CA, NA⟩ := there_back day true (decide_eq_true ⟨h1, h2⟩)
    obtain rfl := hn rfl
    clear hn
    go_enter Tryd.func5, Tryd.ntmps5
    go_wp2_with fail
    refine (CA.out _ (by repeat (first | exact HA.out | refine TabA.al ?_ _))).mono ?_
    rintro e w1 ⟨rfl, o1, hw⟩; rw [hw]; clear hw w1
    go_wp2_with fail
    refine (NA.out _ (by repeat (first | exact HA.out | refine TabA.al ?_ _)) (by repeat (first | exact HL.out | refine TabL.al ?_ _))).mono ?_
    rintro e w1 ⟨rfl, o2, j2, hw⟩; rw [hw]; clear hw w1
    go_wp2_with fail
    refine (NB.out _ (by repeat (first | exact HA.out | refine TabA.dr ?_ _ | refine TabA.al ?_ _)) (by repeat (first | exact HL.out | refine TabL.dr ?_ _ | refine TabL.al ?_ _))).mono ?_
    rintro e w1 ⟨rfl, o3, j3, hw⟩; rw [hw]; clear hw w1
    go_wp2_with fail
    refine (LN.out _).mono ?_
    rintro e w1 ⟨rfl, hw⟩; rw [hw]; clear hw w1
    go_wp2_with fail
    refine (CB.out (by trivial) _ (by repeat (first | exact HA.out | refine TabA.dr ?_ _ | refine TabA.al ?_ _))).mono ?_
    rintro e w1 ⟨rfl, o4, hw⟩; rw [hw]; clear hw w1
    go_wp2_with fail
    refine (same_at _ _ _ _ _ _ true (by simp) _).mono ?_
    rintro e w1 ⟨rfl, o5, o6, hw⟩; rw [hw]; clear hw w1
    go_wp2_with fail
    go_ret
    exact ⟨rfl, by repeat (first | exact Up.refl _ | refine up_drewN ?_ _ | refine Up.alloc ?_ _)⟩

set_option maxHeartbeats 4000000 in
theorem round_no (day : Int) (_ : -9223372036854775808 ≤ day) (_ : day ≤ 9223372036854775807) (year : Int) (_ : -9223372036854775808 ≤ year) (_ : year ≤ 9223372036854775807) (month : Int) (_ : -9223372036854775808 ≤ month) (_ : month ≤ 9223372036854775807) (of' : Int) (_ : -9223372036854775808 ≤ of') (_ : of' ≤ 9223372036854775807) (ho : ¬ Ok year month of') (w : World) (hL : TabL w) (hA : TabA w) :
    Calls Tryd.prog 5 #[.int .i64 day, .int .i64 year, .int .i64 month, .int .i64 of'] w fun e w' => e = .returned (.bool true) ∧ Up w w' := by
  have HA : Hid (TabA w) := hA
  have HL : Hid (TabL w) := hL
  clear hA hL
  have AD := al_drewN
  have SD := set_drewN
  obtain ⟨n2, hn2, NB, CB⟩ := back_there year month of' false (by simp [ho])
  obtain rfl := hn2 rfl
  have HO : Hid (¬ Ok year month of') := ho
  have LN : Hid (1 ≤ year ∧ year ≤ 9999 → 1 ≤ month ∧ month ≤ 12 → 1 ≤ of' → ∃ L : Int, decide (of' ≤ L) = false ∧ Hid (∀ w : World, Calls Tryd.prog 14 #[.int .i64 year, .int .i64 month] w fun e w' => e = .returned (.int .i64 L) ∧ w' = w)) := fun g1 g2 g3 => ⟨_, decide_eq_false (fun g => ho ⟨g1.1, g1.2, g2.1, g2.2, g3, g⟩), fun w => length_at year month _ g1.1 g2.1 g2.2 rfl w⟩
  clear hn2 ho CB
  rcases Int.lt_or_le day 1 with h1 | h1
  · obtain ⟨y, m, k, n, hn, CA, NA⟩ := there_back day false (decide_eq_false (by omega))
    clear hn
    go_enter Tryd.func5, Tryd.ntmps5
    go_wp2_with fail
    refine (CA.out _ (by repeat (first | exact HA.out | refine TabA.al ?_ _))).mono ?_
    rintro e w1 ⟨rfl, o1, hw⟩; rw [hw]; clear hw w1
    go_wp2_with fail
    refine (NA.out _ (by repeat (first | exact HA.out | refine TabA.al ?_ _)) (by repeat (first | exact HL.out | refine TabL.al ?_ _))).mono ?_
    rintro e w1 ⟨rfl, o2, j2, hw⟩; rw [hw]; clear hw w1
    go_wp2_with fail
    refine (NB.out _ (by repeat (first | exact HA.out | refine TabA.dr ?_ _ | refine TabA.al ?_ _)) (by repeat (first | exact HL.out | refine TabL.dr ?_ _ | refine TabL.al ?_ _))).mono ?_
    rintro e w1 ⟨rfl, o3, j3, hw⟩; rw [hw]; clear hw w1
    go_wp2_with fail
    any_goals
      obtain ⟨L, hL, LL⟩ := LN.out (by omega) (by omega) (by omega)
      refine (LL.out _).mono ?_
      rintro e w1 ⟨rfl, hw⟩; rw [hw]; clear hw w1
      go_wp2_with fail
    all_goals
      go_ret
      exact ⟨rfl, by repeat (first | exact Up.refl _ | refine up_drewN ?_ _ | refine Up.alloc ?_ _)⟩
  rcases Int.lt_or_le 3652059 day with h2 | h2
  · obtain ⟨y, m, k, n, hn, CA, NA⟩ := there_back day false (decide_eq_false (by omega))
    clear hn
    go_enter Tryd.func5, Tryd.ntmps5
    go_wp2_with fail
    refine (CA.out _ (by repeat (first | exact HA.out | refine TabA.al ?_ _))).mono ?_
    rintro e w1 ⟨rfl, o1, hw⟩; rw [hw]; clear hw w1
    go_wp2_with fail
    refine (NA.out _ (by repeat (first | exact HA.out | refine TabA.al ?_ _)) (by repeat (first | exact HL.out | refine TabL.al ?_ _))).mono ?_
    rintro e w1 ⟨rfl, o2, j2, hw⟩; rw [hw]; clear hw w1
    go_wp2_with fail
    refine (NB.out _ (by repeat (first | exact HA.out | refine TabA.dr ?_ _ | refine TabA.al ?_ _)) (by repeat (first | exact HL.out | refine TabL.dr ?_ _ | refine TabL.al ?_ _))).mono ?_
    rintro e w1 ⟨rfl, o3, j3, hw⟩; rw [hw]; clear hw w1
    go_wp2_with fail
    any_goals
      obtain ⟨L, hL, LL⟩ := LN.out (by omega) (by omega) (by omega)
      refine (LL.out _).mono ?_
      rintro e w1 ⟨rfl, hw⟩; rw [hw]; clear hw w1
      go_wp2_with fail
    all_goals
      go_ret
      exact ⟨rfl, by repeat (first | exact Up.refl _ | refine up_drewN ?_ _ | refine Up.alloc ?_ _)⟩
  · obtain ⟨y, m, k, n, hn, CA, NA⟩ := there_back day true (decide_eq_true ⟨h1, h2⟩)
    obtain rfl := hn rfl
    clear hn
    go_enter Tryd.func5, Tryd.ntmps5
    go_wp2_with fail
    refine (CA.out _ (by repeat (first | exact HA.out | refine TabA.al ?_ _))).mono ?_
    rintro e w1 ⟨rfl, o1, hw⟩; rw [hw]; clear hw w1
    go_wp2_with fail
    refine (NA.out _ (by repeat (first | exact HA.out | refine TabA.al ?_ _)) (by repeat (first | exact HL.out | refine TabL.al ?_ _))).mono ?_
    rintro e w1 ⟨rfl, o2, j2, hw⟩; rw [hw]; clear hw w1
    go_wp2_with fail
    refine (NB.out _ (by repeat (first | exact HA.out | refine TabA.dr ?_ _ | refine TabA.al ?_ _)) (by repeat (first | exact HL.out | refine TabL.dr ?_ _ | refine TabL.al ?_ _))).mono ?_
    rintro e w1 ⟨rfl, o3, j3, hw⟩; rw [hw]; clear hw w1
    go_wp2_with fail
    any_goals
      obtain ⟨L, hL, LL⟩ := LN.out (by omega) (by omega) (by omega)
      refine (LL.out _).mono ?_
      rintro e w1 ⟨rfl, hw⟩; rw [hw]; clear hw w1
      go_wp2_with fail
    all_goals
      go_ret
      exact ⟨rfl, by repeat (first | exact Up.refl _ | refine up_drewN ?_ _ | refine Up.alloc ?_ _)⟩

theorem round_walk (day : Int) (x1 : -9223372036854775808 ≤ day) (x2 : day ≤ 9223372036854775807) (year : Int) (x3 : -9223372036854775808 ≤ year) (x4 : year ≤ 9223372036854775807) (month : Int) (x5 : -9223372036854775808 ≤ month) (x6 : month ≤ 9223372036854775807) (of' : Int) (x7 : -9223372036854775808 ≤ of') (x8 : of' ≤ 9223372036854775807) (w : World) (hL : TabL w) (hA : TabA w) :
    Calls Tryd.prog 5 #[.int .i64 day, .int .i64 year, .int .i64 month, .int .i64 of'] w fun e w' => e = .returned (.bool true) ∧ Up w w' := by
  by_cases ho : Ok year month of'
  · exact round_yes day x1 x2 year x3 x4 month x5 x6 of' x7 x8 ho w hL hA
  · exact round_no day x1 x2 year x3 x4 month x5 x6 of' x7 x8 ho w hL hA
end Go.Proofs.YtnelmgjdbheogaaDoor
