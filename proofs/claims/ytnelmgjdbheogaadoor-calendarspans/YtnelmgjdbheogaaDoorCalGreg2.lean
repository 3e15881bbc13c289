/-
  Ours: the walk of CalendarGregorian.
-/
import Derived.Test.YtnelmgjdbheogaaDoorCalGreg
import Derived.Deep.RegionHeld
namespace Go.Proofs.YtnelmgjdbheogaaDoor
open Go.RowKit CalM

/-- The date behind a date has the next number. -/
theorem next_of {y m k d : Int} (h : Ok y m k) (hd : dA y m + k = d) (h1 : d < 3652059) : ∃ y' m' k', NextOf y m k y' m' k' ∧ Ok y' m' k' ∧ dA y' m' + k' = d + 1 := by
  obtain ⟨y1, y2, m1, m2, k1, k2⟩ := h
  by_cases a : k < lenI y m
  · exact ⟨y, m, k + 1, .inl ⟨a, rfl, rfl, rfl⟩, ⟨y1, y2, m1, m2, by omega, by omega⟩, by omega⟩
  · have a' : k = lenI y m := by omega
    by_cases b : m < 12
    · refine ⟨y, m + 1, 1, .inr (.inl ⟨a', b, rfl, rfl, rfl⟩), ⟨y1, y2, by omega, by omega, by omega, ?_⟩, ?_⟩
      · have := len_low y (m + 1); omega
      · have := dA_month y m m1 b; omega
    · obtain rfl : m = 12 := by omega
      have e := dA_last y
      have y3 : y < 9999 := by
        rcases Int.lt_or_le y 9999 with g | g
        · exact g
        · obtain rfl : y = 9999 := by omega
          have : yA (9999 + 1) = 3652059 := by decide
          omega
      refine ⟨y + 1, 1, 1, .inr (.inr ⟨a', rfl, rfl, rfl, rfl⟩), ⟨by omega, by omega, by omega, by omega, by omega, ?_⟩, ?_⟩
      · have := len_low (y + 1) 1; omega
      · rw [dA_one]; omega

theorem ok_first : Ok 1 1 1 := ⟨by decide, by decide, by decide, by decide, by decide, by decide⟩
theorem ok_last : Ok 9999 12 31 := ⟨by decide, by decide, by decide, by decide, by decide, by decide⟩

theorem next_week (d : Int) (h1 : 1 ≤ d) (h2 : d ≤ 7) : (d % 7 + 1 == IntKind.i64.wrap (d.tmod 7 + 1)) = true := by
  rw [Int.tmod_eq_emod_of_nonneg (by omega), IntKind.wrap_i64, beq_iff_eq]
  omega
theorem held6 {W a b : World} {p1 p2 p3 p4 p5 p6 : Addr} {v1 v2 v3 v4 v5 v6 : Value} (hU : Up a b)
    (h : Up W a ∧ a.cell? p1 = some v1 ∧ a.cell? p2 = some v2 ∧ a.cell? p3 = some v3 ∧ a.cell? p4 = some v4 ∧ a.cell? p5 = some v5 ∧ a.cell? p6 = some v6) :
    Up W b ∧ b.cell? p1 = some v1 ∧ b.cell? p2 = some v2 ∧ b.cell? p3 = some v3 ∧ b.cell? p4 = some v4 ∧ b.cell? p5 = some v5 ∧ b.cell? p6 = some v6 :=
  ⟨h.1.trans hU, hU.cell h.2.1, hU.cell h.2.2.1, hU.cell h.2.2.2.1, hU.cell h.2.2.2.2.1, hU.cell h.2.2.2.2.2.1, hU.cell h.2.2.2.2.2.2⟩

set_option maxHeartbeats 2000000 in
theorem greg_walk (day : Int) (_ : -9223372036854775808 ≤ day) (_ : day ≤ 9223372036854775807) (w : World) (hA : TabA w) :
    Calls Tryd.prog 4 #[.int .i64 day] w fun e w' => e = .returned (.bool true) ∧ Up w w' := by
  have CA : Hid (∀ (y m k d : Int) (w : World), TabA w → Ok y m k → dA y m + k = d → Calls Tryd.prog 9 #[.int .i64 d] w fun e w' => e = .returned (.tuple #[.agg #[.int .i64 y, .int .i64 m, .int .i64 k], .bool true]) ∧ ∃ o, w' = w.alloc o) := fun y m k d w hA h hd => civil_at y m k d h hd w hA
  have HA : Hid (TabA w) := hA
  clear hA
  by_cases h1 : 1 ≤ day ∧ day ≤ 3652059
  · obtain ⟨y, m, k, hk, hd⟩ := civil_exists day h1.1 h1.2
    have C1 : Hid (∀ w : World, TabA w → Calls Tryd.prog 9 #[.int .i64 day] w fun e w' => e = .returned (.tuple #[.agg #[.int .i64 y, .int .i64 m, .int .i64 k], .bool true]) ∧ ∃ o, w' = w.alloc o) := fun w hw => CA.out y m k day w hw hk hd
    have W1 : Hid (∀ w : World, Calls Tryd.prog 10 #[.int .i64 day] w fun e w' => e = .returned (.tuple #[.int .i64 ((day - 1) % 7 + 1), .bool true]) ∧ w' = w) := fun w => weekday_at day _ h1.1 h1.2 rfl w
    by_cases hl : day = 3652059
    · subst hl
      clear hk hd h1
      go_enter Tryd.func4, Tryd.ntmps4
      go_wp2_with fail
      refine (CA.out 1 1 1 1 _ (by repeat (first | exact HA.out | refine TabA.al ?_ _)) ok_first (by decide)).mono ?_
      rintro e w1 ⟨rfl, o1, hw⟩; rw [hw]; clear hw w1
      go_wp2_with fail
      refine (weekday_at 1 1 (by omega) (by omega) (by omega) _).mono ?_
      rintro e w1 ⟨rfl, hw⟩; rw [hw]; clear hw w1
      go_wp2_with fail
      refine (same_at _ _ _ _ _ _ true (by simp) _).mono ?_
      rintro e w1 ⟨rfl, o2, o3, hw⟩; rw [hw]; clear hw w1
      go_wp2_with fail
      refine (CA.out 9999 12 31 3652059 _ (by repeat (first | exact HA.out | refine TabA.al ?_ _)) ok_last (by decide)).mono ?_
      rintro e w1 ⟨rfl, o4, hw⟩; rw [hw]; clear hw w1
      go_wp2_with fail
      refine (same_at _ _ _ _ _ _ true (by simp) _).mono ?_
      rintro e w1 ⟨rfl, o5, o6, hw⟩; rw [hw]; clear hw w1
      go_wp2_with fail
      refine (C1.out _ (by repeat (first | exact HA.out | refine TabA.al ?_ _))).mono ?_
      rintro e w1 ⟨rfl, o7, hw⟩; rw [hw]; clear hw w1
      go_wp2_with fail
      refine (W1.out _).mono ?_
      rintro e w1 ⟨rfl, hw⟩; rw [hw]; clear hw w1
      go_wp2_with fail
      go_ret
      exact ⟨rfl, by repeat (first | exact Up.refl _ | refine Up.alloc ?_ _)⟩
    · obtain ⟨y', m', k', hn, hk', hd'⟩ := next_of hk hd (by omega)
      have C2 : Hid (∀ w : World, TabA w → Calls Tryd.prog 9 #[.int .i64 (day + 1)] w fun e w' => e = .returned (.tuple #[.agg #[.int .i64 y', .int .i64 m', .int .i64 k'], .bool true]) ∧ ∃ o, w' = w.alloc o) := fun w hw => CA.out y' m' k' _ w hw hk' hd'
      have W2 : Hid (∀ w : World, Calls Tryd.prog 10 #[.int .i64 (day + 1)] w fun e w' => e = .returned (.tuple #[.int .i64 (((day - 1) % 7 + 1) % 7 + 1), .bool true]) ∧ w' = w) := fun w => weekday_at (day + 1) _ (by omega) (by omega) (by omega) w
      have TM : Hid (∀ w : World, Calls Tryd.prog 12 #[.agg #[.int .i64 y, .int .i64 m, .int .i64 k]] w fun e w' => e = .returned (.agg #[.int .i64 y', .int .i64 m', .int .i64 k']) ∧ ∃ o p n, w' = ((w.drewN n).alloc o).alloc p) := fun w => tomorrow_at y m k y' m' k' hk hn w
      obtain ⟨hl1, hl2⟩ := h1
      have b0 : 1 ≤ (day - 1) % 7 + 1 ∧ (day - 1) % 7 + 1 ≤ 7 := by omega
      clear hk hd hk' hd' hn
      generalize (day - 1) % 7 + 1 = wd at *
      go_enter Tryd.func4, Tryd.ntmps4
      go_wp2_with fail
      refine (CA.out 1 1 1 1 _ (by repeat (first | exact HA.out | refine TabA.al ?_ _)) ok_first (by decide)).mono ?_
      rintro e w1 ⟨rfl, o1, hw⟩; rw [hw]; clear hw w1
      go_wp2_with fail
      refine (weekday_at 1 1 (by omega) (by omega) (by omega) _).mono ?_
      rintro e w1 ⟨rfl, hw⟩; rw [hw]; clear hw w1
      go_wp2_with fail
      refine (same_at _ _ _ _ _ _ true (by simp) _).mono ?_
      rintro e w1 ⟨rfl, o2, o3, hw⟩; rw [hw]; clear hw w1
      go_wp2_with fail
      refine (CA.out 9999 12 31 3652059 _ (by repeat (first | exact HA.out | refine TabA.al ?_ _)) ok_last (by decide)).mono ?_
      rintro e w1 ⟨rfl, o4, hw⟩; rw [hw]; clear hw w1
      go_wp2_with fail
      refine (same_at _ _ _ _ _ _ true (by simp) _).mono ?_
      rintro e w1 ⟨rfl, o5, o6, hw⟩; rw [hw]; clear hw w1
      go_wp2_with fail
      refine (C1.out _ (by repeat (first | exact HA.out | refine TabA.al ?_ _))).mono ?_
      rintro e w1 ⟨rfl, o7, hw⟩; rw [hw]; clear hw w1
      go_wp2_with fail
      refine (W1.out _).mono ?_
      rintro e w1 ⟨rfl, hw⟩; rw [hw]; clear hw w1
      go_wp2_with fail
      refine (C2.out _ (by repeat (first | exact HA.out | refine TabA.al ?_ _))).mono ?_
      rintro e w1 ⟨rfl, o8, hw⟩; rw [hw]; clear hw w1
      go_wp2_with fail
      refine (W2.out _).mono ?_
      rintro e w1 ⟨rfl, hw⟩; rw [hw]; clear hw w1
      go_wp2_with fail
      obtain ⟨W, hW⟩ : ∃ W, ((((((((((w.alloc o1).alloc (.cells #[.int .i64 y, .int .i64 m, .int .i64 k] 23)).alloc o2).alloc o3).alloc o4).alloc o5).alloc o6).alloc o7).alloc o8).alloc (.cells #[.int .i64 y', .int .i64 m', .int .i64 k'] 23)) = W := ⟨_, rfl⟩
      have UW : Up w W := by rw [← hW]; repeat (first | exact Up.refl _ | refine Up.alloc ?_ _)
      obtain ⟨bd, hbd⟩ : ∃ bd, w.heap.size + 1 = bd := ⟨_, rfl⟩
      obtain ⟨be, hbe⟩ : ∃ be, w.heap.size + 1 + 1 + 1 + 1 + 1 + 1 + 1 + 1 + 1 = be := ⟨_, rfl⟩
      have d0 : W.cell? ⟨bd, 0, none⟩ = some (.int .i64 y) := by subst hW hbd; exact Up.cell (w := (w.alloc o1).alloc (.cells #[.int .i64 y, .int .i64 m, .int .i64 k] 23)) (by repeat (first | exact Up.refl _ | refine Up.alloc ?_ _)) (cell_new _ _ _ 0 _ _ rfl (size_al _ _ _ rfl))
      have d1 : W.cell? ⟨bd, 1, none⟩ = some (.int .i64 m) := by subst hW hbd; exact Up.cell (w := (w.alloc o1).alloc (.cells #[.int .i64 y, .int .i64 m, .int .i64 k] 23)) (by repeat (first | exact Up.refl _ | refine Up.alloc ?_ _)) (cell_new _ _ _ 1 _ _ rfl (size_al _ _ _ rfl))
      have d2 : W.cell? ⟨bd, 2, none⟩ = some (.int .i64 k) := by subst hW hbd; exact Up.cell (w := (w.alloc o1).alloc (.cells #[.int .i64 y, .int .i64 m, .int .i64 k] 23)) (by repeat (first | exact Up.refl _ | refine Up.alloc ?_ _)) (cell_new _ _ _ 2 _ _ rfl (size_al _ _ _ rfl))
      have e0 : W.cell? ⟨be, 0, none⟩ = some (.int .i64 y') := by subst hW hbe; exact cell_new _ _ _ 0 _ _ rfl (by repeat (first | exact rfl | refine size_al _ _ _ ?_))
      have e1 : W.cell? ⟨be, 1, none⟩ = some (.int .i64 m') := by subst hW hbe; exact cell_new _ _ _ 1 _ _ rfl (by repeat (first | exact rfl | refine size_al _ _ _ ?_))
      have e2 : W.cell? ⟨be, 2, none⟩ = some (.int .i64 k') := by subst hW hbe; exact cell_new _ _ _ 2 _ _ rfl (by repeat (first | exact rfl | refine size_al _ _ _ ?_))
      have TU : Hid (∀ w : World, Calls Tryd.prog 12 #[.agg #[.int .i64 y, .int .i64 m, .int .i64 k]] w fun e w' => e = .returned (.agg #[.int .i64 y', .int .i64 m', .int .i64 k']) ∧ Up w w') := fun w => (TM.out w).mono fun e w' ⟨he, o, p, n, hw⟩ => ⟨he, by rw [hw]; exact (Up.alloc (Up.alloc (up_drewN (Up.refl w) n) _) _)⟩
      have SU : Hid (∀ w : World, Calls Tryd.prog 11 #[.agg #[.int .i64 y', .int .i64 m', .int .i64 k'], .agg #[.int .i64 y', .int .i64 m', .int .i64 k']] w fun e w' => e = .returned (.bool true) ∧ Up w w') := fun w => (same_at _ _ _ _ _ _ true (by simp) w).mono fun e w' ⟨he, o, p, hw⟩ => ⟨he, by rw [hw]; exact (Up.alloc (Up.alloc (Up.refl w) _) _)⟩
      rw [hW, hbe, hbd]
      clear hW hbd hbe CA C1 C2 W1 W2 TM HA
      go_region_held (fun w' => Up w w' ∧ w'.cell? ⟨bd, 0, none⟩ = some (.int .i64 y) ∧ w'.cell? ⟨bd, 1, none⟩ = some (.int .i64 m) ∧ w'.cell? ⟨bd, 2, none⟩ = some (.int .i64 k) ∧ w'.cell? ⟨be, 0, none⟩ = some (.int .i64 y') ∧ w'.cell? ⟨be, 1, none⟩ = some (.int .i64 m') ∧ w'.cell? ⟨be, 2, none⟩ = some (.int .i64 k')) (first | exact ⟨up_drewN UW 1, d0, d1, d2, e0, e1, e2⟩ | exact held6 hU (by assumption)) (first | (go_at_call 12; refine (TU.out _).mono ?_; rintro e w1 ⟨rfl, hU⟩) | (go_at_call 11; refine (SU.out _).mono ?_; rintro e w1 ⟨rfl, hU⟩))
      all_goals
        go_wp2_with fail
        go_ret
        refine ⟨ret_bool (next_week wd b0.1 b0.2), And.left (b := w1.cell? ⟨bd, 0, none⟩ = some (.int .i64 y) ∧ w1.cell? ⟨bd, 1, none⟩ = some (.int .i64 m) ∧ w1.cell? ⟨bd, 2, none⟩ = some (.int .i64 k) ∧ w1.cell? ⟨be, 0, none⟩ = some (.int .i64 y') ∧ w1.cell? ⟨be, 1, none⟩ = some (.int .i64 m') ∧ w1.cell? ⟨be, 2, none⟩ = some (.int .i64 k')) (by assumption)⟩
  · have h2 : (decide (day < 1) || decide (3652059 < day)) = true := by simp; omega
    have CN : Hid (∀ w : World, Calls Tryd.prog 9 #[.int .i64 day] w fun e w' => e = .returned (.tuple #[.agg #[.int .i64 0, .int .i64 0, .int .i64 0], .bool false]) ∧ ∃ o, w' = w.alloc o) := fun w => civil_no day h1 w
    have WN : Hid (∀ w : World, Calls Tryd.prog 10 #[.int .i64 day] w fun e w' => e = .returned (.tuple #[.int .i64 0, .bool false]) ∧ w' = w) := fun w => weekday_no day h1 w
    clear h1
    go_enter Tryd.func4, Tryd.ntmps4
    go_wp2_with fail
    refine (CA.out 1 1 1 1 _ (by repeat (first | exact HA.out | refine TabA.al ?_ _)) ok_first (by decide)).mono ?_
    rintro e w1 ⟨rfl, o1, hw⟩; rw [hw]; clear hw w1
    go_wp2_with fail
    refine (weekday_at 1 1 (by omega) (by omega) (by omega) _).mono ?_
    rintro e w1 ⟨rfl, hw⟩; rw [hw]; clear hw w1
    go_wp2_with fail
    refine (same_at _ _ _ _ _ _ true (by simp) _).mono ?_
    rintro e w1 ⟨rfl, o2, o3, hw⟩; rw [hw]; clear hw w1
    go_wp2_with fail
    refine (CA.out 9999 12 31 3652059 _ (by repeat (first | exact HA.out | refine TabA.al ?_ _)) ok_last (by decide)).mono ?_
    rintro e w1 ⟨rfl, o4, hw⟩; rw [hw]; clear hw w1
    go_wp2_with fail
    refine (same_at _ _ _ _ _ _ true (by simp) _).mono ?_
    rintro e w1 ⟨rfl, o5, o6, hw⟩; rw [hw]; clear hw w1
    go_wp2_with fail
    refine (CN.out _).mono ?_
    rintro e w1 ⟨rfl, o7, hw⟩; rw [hw]; clear hw w1
    go_wp2_with fail
    refine (WN.out _).mono ?_
    rintro e w1 ⟨rfl, hw⟩; rw [hw]; clear hw w1
    go_wp2_with fail
    all_goals
      refine (same_at _ _ _ _ _ _ true (by simp) _).mono ?_
      rintro e w1 ⟨rfl, o8, o9, hw⟩; rw [hw]; clear hw w1
      go_wp2_with fail
      go_ret
      exact ⟨rfl, by repeat (first | exact Up.refl _ | refine Up.alloc ?_ _)⟩
end Go.Proofs.YtnelmgjdbheogaaDoor
