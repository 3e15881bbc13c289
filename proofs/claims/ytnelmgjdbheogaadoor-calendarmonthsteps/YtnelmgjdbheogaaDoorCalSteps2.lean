/-
  Ours: the walk of CalendarMonthSteps where its days, months and anchor are such.
-/
import Derived.Test.YtnelmgjdbheogaaDoorCalSteps
namespace Go.Proofs.YtnelmgjdbheogaaDoor
open Go.RowKit CalM

set_option maxHeartbeats 4000000 in
set_option maxRecDepth 100000 in
theorem steps_in (day a b anchor : Int) (h1 : 1 ≤ day) (h2 : day ≤ 3652059) (a1 : 1 ≤ anchor) (a2 : anchor ≤ 31) (x1 : -200000 ≤ a) (x2 : a ≤ 200000) (x3 : -200000 ≤ b) (x4 : b ≤ 200000) (w : World) (hL : TabL w) (hA : TabA w) :
    Calls Tryd.prog 6 #[.int .i64 day, .int .i64 a, .int .i64 b, .int .i64 anchor] w fun e w' => e = .returned (.bool true) ∧ Up w w' := by
  have HA : Hid (TabA w) := hA
  have HL : Hid (TabL w) := hL
  clear hA hL
  obtain ⟨y, m, k, hk, hd⟩ := civil_exists day h1 h2
  obtain ⟨p, hp⟩ : ∃ p, (y - 1) * 12 + m - 1 = p := ⟨_, rfl⟩
  have p1 : 0 ≤ p ∧ p ≤ 119987 := by obtain ⟨y1, y2, m1, m2, _, _⟩ := hk; omega
  have A0 : Hid (∀ w : World, TabA w → TabL w → Calls Tryd.prog 15 #[.int .i64 day, .int .i64 0, .int .i64 anchor] w fun e w' => e = .returned (.tuple #[.int .i64 (stepN p anchor), .bool true]) ∧ Up w w') := fun w hA hL => by
    have e : stepB p = true := decide_eq_true p1
    rw [← e]; exact addMonths_up y m k day 0 anchor p hk hd a1 a2 (by omega) w hA hL
  have AA : Hid (∀ w : World, TabA w → TabL w → Calls Tryd.prog 15 #[.int .i64 day, .int .i64 a, .int .i64 anchor] w fun e w' => e = .returned (.tuple #[.int .i64 (stepN (p + a) anchor), .bool (stepB (p + a))]) ∧ Up w w') := fun w hA hL => addMonths_up y m k day a anchor (p + a) hk hd a1 a2 (by omega) w hA hL
  have AZ : Hid (∀ w : World, TabA w → TabL w → Calls Tryd.prog 15 #[.int .i64 day, .int .i64 (a + b), .int .i64 anchor] w fun e w' => e = .returned (.tuple #[.int .i64 (stepN (p + a + b) anchor), .bool (stepB (p + a + b))]) ∧ Up w w') := fun w hA hL => addMonths_up y m k day (a + b) anchor (p + a + b) hk hd a1 a2 (by omega) w hA hL
  have CA : Hid (∀ w : World, TabA w → Calls Tryd.prog 9 #[.int .i64 day] w fun e w' => e = .returned (.tuple #[.agg #[.int .i64 y, .int .i64 m, .int .i64 k], .bool true]) ∧ ∃ o, w' = w.alloc o) := fun w hA => civil_at y m k day hk hd w hA
  by_cases g : 0 ≤ p + a ∧ p + a ≤ 119987
  · have e1 : stepB (p + a) = true := decide_eq_true g
    have e2 : stepN (p + a) anchor = dA ((p + a) / 12 + 1) ((p + a) % 12 + 1) + landI (p + a) anchor := by unfold stepN; rw [if_pos g]
    have ok := step_ok g.1 g.2 a1 a2
    have hx := day_range ok
    rw [← e2] at hx
    rw [e1] at AA
    obtain ⟨X, hX⟩ : ∃ X, stepN (p + a) anchor = X := ⟨_, rfl⟩
    obtain ⟨Y, hY⟩ : ∃ Y, (p + a) / 12 + 1 = Y := ⟨_, rfl⟩
    obtain ⟨M, hM⟩ : ∃ M, (p + a) % 12 + 1 = M := ⟨_, rfl⟩
    obtain ⟨D, hD⟩ : ∃ D, landI (p + a) anchor = D := ⟨_, rfl⟩
    have hD' : Hid (D = min anchor (lenI Y M)) := by show D = min anchor (lenI Y M); rw [← hD, ← hY, ← hM]; rfl
    rw [hX] at AA hx e2
    rw [hY, hM, hD] at ok e2
    have CX : Hid (∀ w : World, TabA w → Calls Tryd.prog 9 #[.int .i64 X] w fun e w' => e = .returned (.tuple #[.agg #[.int .i64 Y, .int .i64 M, .int .i64 D], .bool true]) ∧ ∃ o, w' = w.alloc o) := fun w hA => civil_at Y M D X ok e2.symm w hA
    have AX : Hid (∀ w : World, TabA w → TabL w → Calls Tryd.prog 15 #[.int .i64 X, .int .i64 b, .int .i64 anchor] w fun e w' => e = .returned (.tuple #[.int .i64 (stepN (p + a + b) anchor), .bool (stepB (p + a + b))]) ∧ Up w w') := fun w hA hL => addMonths_up Y M D X b anchor (p + a + b) ok e2.symm a1 a2 (by omega) w hA hL
    have LN : Hid (∀ w : World, Calls Tryd.prog 14 #[.int .i64 Y, .int .i64 M] w fun e w' => e = .returned (.int .i64 (lenI Y M)) ∧ w' = w) := fun w => length_at Y M _ ok.1 ok.2.2.1 ok.2.2.2.1 rfl w
    obtain ⟨y1, y2, m1, m2, _, _⟩ := hk
    obtain ⟨Y1, Y2, M1, M2, _, _⟩ := ok
    have sum : 12 * Y + M = 12 * y + m + a := by omega
    generalize lenI Y M = L at *
    clear e1 e2 hX hY hM hD hd
    generalize stepN (p + a + b) anchor = Z at *
    generalize stepB (p + a + b) = zb at *
    generalize stepN p anchor = S0 at *
    clear hp p1 g
    go_enter Tryd.func6, Tryd.ntmps6
    go_wp2_with fail
    refine (A0.out _ HA.out HL.out).mono ?_
    rintro e w1 ⟨rfl, U1⟩
    have HA1 : Hid (TabA w1) := HA.out.up U1
    have HL1 : Hid (TabL w1) := HL.out.up U1
    go_wp2_with fail
    refine (AA.out _ HA1.out HL1.out).mono ?_
    rintro e w2 ⟨rfl, U2⟩
    have HA2 : Hid (TabA w2) := HA1.out.up U2
    have HL2 : Hid (TabL w2) := HL1.out.up U2
    have U3 : Hid (Up w w2) := U1.trans U2
    clear HA HL HA1 HL1 A0 AA U1 U2
    go_wp2_with fail
    refine (CA.out _ HA2.out).mono ?_
    rintro e w3 ⟨rfl, o1, hw⟩; rw [hw]; clear hw w3
    go_wp2_with fail
    refine (CX.out _ (by repeat (first | exact HA2.out | refine TabA.al ?_ _))).mono ?_
    rintro e w3 ⟨rfl, o2, hw⟩; rw [hw]; clear hw w3
    go_wp2_with fail
    obtain ⟨W, hW⟩ : ∃ W, ((((w2.alloc o1).alloc (.cells #[.int .i64 y, .int .i64 m, .int .i64 k] 23)).alloc o2).alloc (.cells #[.int .i64 Y, .int .i64 M, .int .i64 D] 23)) = W := ⟨_, rfl⟩
    have UW : Hid (Up w W) := U3.out.trans (by rw [← hW]; repeat (first | exact Up.refl _ | refine Up.alloc ?_ _))
    have HAW : Hid (TabA W) := by rw [← hW]; repeat (first | exact HA2.out | refine TabA.al ?_ _)
    have HLW : Hid (TabL W) := by rw [← hW]; repeat (first | exact HL2.out | refine TabL.al ?_ _)
    obtain ⟨be, hbe⟩ : ∃ be, w2.heap.size + 1 + 1 + 1 = be := ⟨_, rfl⟩
    have f0 : W.cell? ⟨be, 0, none⟩ = some (.int .i64 Y) := by subst hW hbe; exact cell_new _ _ _ 0 _ _ rfl (by repeat (first | exact rfl | refine size_al _ _ _ ?_))
    have f1 : W.cell? ⟨be, 1, none⟩ = some (.int .i64 M) := by subst hW hbe; exact cell_new _ _ _ 1 _ _ rfl (by repeat (first | exact rfl | refine size_al _ _ _ ?_))
    have f2 : W.cell? ⟨be, 2, none⟩ = some (.int .i64 D) := by subst hW hbe; exact cell_new _ _ _ 2 _ _ rfl (by repeat (first | exact rfl | refine size_al _ _ _ ?_))
    rw [hW, hbe]
    clear hW hbe HA2 HL2 U3 CA CX
    by_cases c : anchor ≤ L
    · obtain rfl : D = anchor := by have := hD'.out; omega
      clear hD' c
      go_quiet (fail)
      go_wp2_with fail
      refine (AX.out _ (by repeat (first | exact HAW.out | refine TabA.dr ?_ _ | refine TabA.al ?_ _)) (by repeat (first | exact HLW.out | refine TabL.dr ?_ _ | refine TabL.al ?_ _))).mono ?_
      rintro e w4 ⟨rfl, U4⟩
      have HA4 : Hid (TabA w4) := TabA.up (by repeat (first | exact HAW.out | refine TabA.dr ?_ _ | refine TabA.al ?_ _)) U4
      have HL4 : Hid (TabL w4) := TabL.up (by repeat (first | exact HLW.out | refine TabL.dr ?_ _ | refine TabL.al ?_ _)) U4
      have U5 : Hid (Up w w4) := UW.out.trans (Up.trans (by repeat (first | exact Up.refl _ | refine up_drewN ?_ _ | refine Up.alloc ?_ _)) U4)
      clear U4
      go_wp2_with fail
      refine (AZ.out _ HA4.out HL4.out).mono ?_
      rintro e w5 ⟨rfl, U6⟩
      have U7 : Hid (Up w w5) := U5.out.trans U6
      clear U6
      go_wp2_with fail
      go_ret
      exact ⟨ret_bool (by simp), U7.out⟩
    · obtain rfl : D = L := by have := hD'.out; omega
      have n1 : (D != anchor) = true := by simp; omega
      have n2 : decide (anchor < D) = false := decide_eq_false (by omega)
      clear hD' c
      go_quiet ((go_at_call 14; exact Calls.quiet_of_same (LN.out _)))
      go_wp2_with fail
      refine (AX.out _ (by repeat (first | exact HAW.out | refine TabA.dr ?_ _ | refine TabA.al ?_ _)) (by repeat (first | exact HLW.out | refine TabL.dr ?_ _ | refine TabL.al ?_ _))).mono ?_
      rintro e w4 ⟨rfl, U4⟩
      have HA4 : Hid (TabA w4) := TabA.up (by repeat (first | exact HAW.out | refine TabA.dr ?_ _ | refine TabA.al ?_ _)) U4
      have HL4 : Hid (TabL w4) := TabL.up (by repeat (first | exact HLW.out | refine TabL.dr ?_ _ | refine TabL.al ?_ _)) U4
      have U5 : Hid (Up w w4) := UW.out.trans (Up.trans (by repeat (first | exact Up.refl _ | refine up_drewN ?_ _ | refine Up.alloc ?_ _)) U4)
      clear U4
      go_wp2_with fail
      refine (AZ.out _ HA4.out HL4.out).mono ?_
      rintro e w5 ⟨rfl, U6⟩
      have U7 : Hid (Up w w5) := U5.out.trans U6
      clear U6
      go_wp2_with fail
      go_ret
      exact ⟨ret_bool (by simp), U7.out⟩
  · have e1 : stepB (p + a) = false := decide_eq_false g
    have e2 : stepN (p + a) anchor = 0 := by unfold stepN; rw [if_neg g]
    rw [e1, e2] at AA
    generalize stepN p anchor = S0 at *
    clear hk hd hp p1 g e1 e2 AZ CA
    go_enter Tryd.func6, Tryd.ntmps6
    go_wp2_with fail
    refine (A0.out _ HA.out HL.out).mono ?_
    rintro e w1 ⟨rfl, U1⟩
    have HA1 : Hid (TabA w1) := HA.out.up U1
    have HL1 : Hid (TabL w1) := HL.out.up U1
    go_wp2_with fail
    refine (AA.out _ HA1.out HL1.out).mono ?_
    rintro e w2 ⟨rfl, U2⟩
    go_wp2_with fail
    go_ret
    exact ⟨rfl, U1.trans U2⟩

theorem steps_walk (day : Int) (_ : -9223372036854775808 ≤ day) (_ : day ≤ 9223372036854775807) (a : Int) (_ : -9223372036854775808 ≤ a) (_ : a ≤ 9223372036854775807) (b : Int) (_ : -9223372036854775808 ≤ b) (_ : b ≤ 9223372036854775807) (anchor : Int) (_ : -9223372036854775808 ≤ anchor) (_ : anchor ≤ 9223372036854775807) (w : World) (hL : TabL w) (hA : TabA w) :
    Calls Tryd.prog 6 #[.int .i64 day, .int .i64 a, .int .i64 b, .int .i64 anchor] w fun e w' => e = .returned (.bool true) ∧ Up w w' := by
  by_cases h : 1 ≤ day ∧ day ≤ 3652059 ∧ 1 ≤ anchor ∧ anchor ≤ 31 ∧ -200000 ≤ a ∧ a ≤ 200000 ∧ -200000 ≤ b ∧ b ≤ 200000
  · exact steps_in day a b anchor h.1 h.2.1 h.2.2.1 h.2.2.2.1 h.2.2.2.2.1 h.2.2.2.2.2.1 h.2.2.2.2.2.2.1 h.2.2.2.2.2.2.2 w hL hA
  · exact steps_out day a b anchor h w hL hA
end Go.Proofs.YtnelmgjdbheogaaDoor
