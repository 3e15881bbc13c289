/-
  Ours: the walk of CalendarBusiness.
-/
import Derived.Test.YtnelmgjdbheogabDoorCalBiz
namespace Go.Proofs.YtnelmgjdbheogabDoor
open Go.RowKit CalM

/-- Within ten days the month's number tells the month. -/
theorem month_tells {a b k : Int} (a1 : 1 ≤ a) (a2 : a ≤ 3652059) (b1 : 1 ≤ b) (b2 : b ≤ 3652059) (k1 : 0 ≤ k) (k2 : k ≤ 10) (h : b = a + k) : smB a b = decide (dM b = dM a) := by
  obtain ⟨oka, ea⟩ := date_spec a a1 a2
  obtain ⟨okb, eb⟩ := date_spec b b1 b2
  unfold smB
  rw [decide_eq_decide]
  refine ⟨fun g => g.2.symm, fun g => ⟨?_, g.symm⟩⟩
  obtain ⟨y1, y2, m1, m2, c1, c2⟩ := oka
  obtain ⟨y3, y4, m3, m4, c3, c4⟩ := okb
  rw [g] at eb c4 m3 m4
  generalize dM a = m at *
  generalize dY a = y at *
  generalize dY b = z at *
  have l1 := dA_high y m m1 m2
  have l2 := dA_low z m m1 m2
  have l3 := dA_low y m m1 m2
  have l4 := dA_high z m m1 m2
  have hl := len_high y m
  have step : ∀ u : Int, dA u m + 365 ≤ dA (u + 1) m := fun u => by
    unfold dA; rw [yA_succ]
    have := lp_01 u
    have := lp_01 (u + 1)
    split <;> omega
  rcases Int.lt_trichotomy y z with g | g | g
  · exfalso
    have s := step y
    have m1' : dA (y + 1) m ≤ dA z m := by
      rcases Int.lt_or_le (y + 1) z with g' | g'
      · have t1 := dA_high (y + 1) m m1 m2
        have t2 := yA_mono (a := y + 1 + 1) (b := z) (by omega)
        have t3 := len_low (y + 1) m
        omega
      · obtain rfl : z = y + 1 := by omega
        omega
    omega
  · exact g
  · exfalso
    have t2 := yA_mono (a := z + 1) (b := y) (by omega)
    omega

/-- On, or back where that leaves the month. -/
def modO (q1 q2 : Option Int) (f : Int → Bool) : Option Int := match q1 with | some n => if f n then some n else q2 | none => q2

set_option maxHeartbeats 1000000 in
theorem biz_out (a : Option Addr) (cap L : Nat) (day : Int) (hL : L ≤ 9223372036854775807) (h : ¬(L ≤ 4096 ∧ 1 ≤ day ∧ day ≤ 3652059)) (w : World) :
    Calls Tryd.prog 6 #[.int .i64 day, .slice a L cap] w fun e w' => e = .returned (.bool true) ∧ Up w w' := by
  have B1 : Hid (∀ w, Calls Tryd.prog 17 #[.int .i64 1, .slice none 0 0] w fun e w' => e = .returned (.bool true) ∧ w' = w) := fun w => business_at none 0 [] 1 w (slOk_nil w) true (by decide)
  have B0 : Hid (∀ w, Calls Tryd.prog 17 #[.int .i64 0, .slice none 0 0] w fun e w' => e = .returned (.bool false) ∧ w' = w) := fun w => business_at none 0 [] 0 w (slOk_nil w) false (by decide)
  have HO : Hid (¬(L ≤ 4096 ∧ 1 ≤ day ∧ day ≤ 3652059)) := h
  clear h
  go_enter Tryd.func6, Tryd.ntmps6
  go_wp2_with fail
  all_goals first
    | (exfalso
       exact HO.out (by omega))
    | (refine (B1.out _).mono ?_
       rintro e w1 ⟨rfl, hw⟩; rw [hw]; clear hw w1
       go_wp2_with fail
       refine (B0.out _).mono ?_
       rintro e w1 ⟨rfl, hw⟩; rw [hw]; clear hw w1
       go_wp2_with fail
       go_ret
       exact ⟨rfl, Up.refl _⟩)

set_option maxRecDepth 100000 in
set_option maxHeartbeats 4000000 in
theorem biz_in (a : Option Addr) (cap : Nat) (xs : List Int) (day : Int) (l1 : xs.length ≤ 4096) (d1 : 1 ≤ day) (d2 : day ≤ 3652059) (w : World) (hA : TabA w) (hS : SlOk w a xs) :
    Calls Tryd.prog 6 #[.int .i64 day, .slice a xs.length cap] w fun e w' => e = .returned (.bool true) ∧ Up w w' := by
  obtain ⟨q1, hq1⟩ : ∃ q, near day 1 xs = q := ⟨_, rfl⟩
  obtain ⟨q2, hq2⟩ : ∃ q, near day (-1) xs = q := ⟨_, rfl⟩
  obtain ⟨q3, hq3⟩ : ∃ q, adjO day xs 3 = q := ⟨_, rfl⟩
  have n0 : ¬¬(1 ≤ day ∧ day ≤ 3652059) := fun g => g ⟨d1, d2⟩
  have e0 : adjO day xs 0 = some day := by unfold adjO; rw [if_neg n0, if_pos rfl]
  have e1 : adjO day xs 1 = q1 := by unfold adjO; rw [if_neg n0, if_neg (by decide), if_pos rfl]; exact hq1
  have e2 : adjO day xs 2 = q2 := by unfold adjO; rw [if_neg n0, if_neg (by decide), if_neg (by decide), if_pos rfl]; exact hq2
  have e3 : modO q1 q2 (smB day) = q3 := by rw [← hq3, ← hq1, ← hq2]; unfold adjO; rw [if_neg n0, if_neg (by decide), if_neg (by decide), if_neg (by decide), if_pos rfl]; rfl
  have AJ : Hid (∀ (rule : Int) (r : Option Int) (w : World), adjO day xs rule = r → TabA w → SlOk w a xs → Calls Tryd.prog 19 #[.int .i64 day, .slice a xs.length cap, .int .i64 rule] w fun e w' => e = .returned (.tuple #[.int .i64 (optN r), .bool r.isSome]) ∧ Up w w') := fun rule r w hr hA h => adjust_at a cap xs day rule r hr w hA h
  have NE : Hid (∀ (step : Int) (r : Option Int) (w : World), near day step xs = r → (step = 1 ∨ step = -1) → SlOk w a xs → Calls Tryd.prog 20 #[.int .i64 day, .slice a xs.length cap, .int .i64 step] w fun e w' => e = .returned (.int .i64 (optN r)) ∧ w' = w) := fun step r w hr hs h => lawNearest_at a cap xs day step r hr d1 d2 hs w h
  obtain ⟨b, hb⟩ : ∃ b, workB day xs = b := ⟨_, rfl⟩
  have BU : Hid (∀ w : World, SlOk w a xs → Calls Tryd.prog 17 #[.int .i64 day, .slice a xs.length cap] w fun e w' => e = .returned (.bool b) ∧ w' = w) := fun w h => business_at a cap xs day w h b hb
  have WO : Hid (∀ w : World, SlOk w a xs → Calls Tryd.prog 18 #[.int .i64 day, .slice a xs.length cap] w fun e w' => e = .returned (.bool b) ∧ w' = w) := fun w h => works_at a cap xs day w h b hb
  obtain ⟨y, m, k, hk, hd⟩ := civil_exists day d1 d2
  have mm : dM day = m := (date_is hk hd).2.1
  have CA : Hid (∀ w : World, TabA w → Calls Tryd.prog 11 #[.int .i64 day] w fun e w' => e = .returned (.tuple #[.agg #[.int .i64 y, .int .i64 m, .int .i64 k], .bool true]) ∧ ∃ o, w' = w.alloc o) := fun w hA => civil_at y m k day hk hd w hA
  have R1 : Hid (∀ x, q1 = some x → (1 ≤ x ∧ x ≤ 3652059) ∧ smB day x = decide (dM x = m)) := fun x hx => by
    obtain ⟨r, c, c1, c2, c3⟩ := near_works (hq1.trans hx)
    exact ⟨r, by rw [← mm]; exact month_tells d1 d2 r.1 r.2 c1 c2 (by omega)⟩
  have R2 : Hid (∀ x, q2 = some x → 1 ≤ x ∧ x ≤ 3652059) := fun x hx => (near_works (hq2.trans hx)).1
  have A0 : Hid (∀ w : World, TabA w → SlOk w a xs → Calls Tryd.prog 19 #[.int .i64 day, .slice a xs.length cap, .int .i64 0] w fun e w' => e = .returned (.tuple #[.int .i64 day, .bool true]) ∧ Up w w') := fun w hA h => AJ.out 0 _ w e0 hA h
  have A1 : Hid (∀ w : World, TabA w → SlOk w a xs → Calls Tryd.prog 19 #[.int .i64 day, .slice a xs.length cap, .int .i64 1] w fun e w' => e = .returned (.tuple #[.int .i64 (optN q1), .bool q1.isSome]) ∧ Up w w') := fun w hA h => AJ.out 1 _ w e1 hA h
  have A2 : Hid (∀ w : World, TabA w → SlOk w a xs → Calls Tryd.prog 19 #[.int .i64 day, .slice a xs.length cap, .int .i64 2] w fun e w' => e = .returned (.tuple #[.int .i64 (optN q2), .bool q2.isSome]) ∧ Up w w') := fun w hA h => AJ.out 2 _ w e2 hA h
  have A3 : Hid (∀ w : World, TabA w → SlOk w a xs → Calls Tryd.prog 19 #[.int .i64 day, .slice a xs.length cap, .int .i64 3] w fun e w' => e = .returned (.tuple #[.int .i64 (optN q3), .bool q3.isSome]) ∧ Up w w') := fun w hA h => AJ.out 3 _ w hq3 hA h
  have N1 : Hid (∀ w : World, SlOk w a xs → Calls Tryd.prog 20 #[.int .i64 day, .slice a xs.length cap, .int .i64 1] w fun e w' => e = .returned (.int .i64 (optN q1)) ∧ w' = w) := fun w h => NE.out 1 _ w hq1 (Or.inl rfl) h
  have N2 : Hid (∀ w : World, SlOk w a xs → Calls Tryd.prog 20 #[.int .i64 day, .slice a xs.length cap, .int .i64 (-1)] w fun e w' => e = .returned (.int .i64 (optN q2)) ∧ w' = w) := fun w h => NE.out (-1) _ w hq2 (Or.inr rfl) h
  have CX : Hid (∀ x, q1 = some x → ∃ y' k', ∀ w : World, TabA w → Calls Tryd.prog 11 #[.int .i64 x] w fun e w' => e = .returned (.tuple #[.agg #[.int .i64 y', .int .i64 (dM x), .int .i64 k'], .bool true]) ∧ ∃ o, w' = w.alloc o) := fun x hx => by
    obtain ⟨r, _⟩ := R1.out x hx
    obtain ⟨ok, ed⟩ := date_spec x r.1 r.2
    exact ⟨_, _, fun w hA => civil_at _ _ _ x ok ed w hA⟩
  have C0 : Hid (∀ w : World, Calls Tryd.prog 11 #[.int .i64 0] w fun e w' => e = .returned (.tuple #[.agg #[.int .i64 0, .int .i64 0, .int .i64 0], .bool false]) ∧ ∃ o, w' = w.alloc o) := fun w => civil_no 0 (by omega) w
  have HA : Hid (TabA w) := hA
  have HS : Hid (SlOk w a xs) := hS
  have LL : ((xs.length : Nat) : Int) ≤ 4096 := by omega
  clear hA hS hq1 hq2 hq3 n0 e0 e1 e2 AJ NE hb hk hd mm l1
  generalize xs.length = L at *
  cases q1 with
  | none =>
    simp only [modO] at e3
    subst e3
    clear CX R1
    cases q2 with
    | none =>
      simp only [optN, Option.isSome] at A1 A2 A3 N1 N2
      clear R2
      go_enter Tryd.func6, Tryd.ntmps6
      go_wp2_with fail
      refine (BU.out _ HS.out).mono ?_
      rintro e w1 ⟨rfl, hw⟩; rw [hw]; clear hw w1
      go_wp2_with fail
      refine (WO.out _ HS.out).mono ?_
      rintro e w1 ⟨rfl, hw⟩; rw [hw]; clear hw w1
      go_wp2_with fail
      refine (A1.out _ HA.out HS.out).mono ?_
      rintro e w1 ⟨rfl, V1⟩
      have HA1 : Hid (TabA w1) := HA.out.up V1
      have HS1 : Hid (SlOk w1 a xs) := HS.out.up V1
      have U1 : Hid (Up w w1) := V1
      clear V1
      go_wp2_with fail
      refine (A2.out _ HA1.out HS1.out).mono ?_
      rintro e w2 ⟨rfl, V2⟩
      have HA2 : Hid (TabA w2) := HA1.out.up V2
      have HS2 : Hid (SlOk w2 a xs) := HS1.out.up V2
      have U2 : Hid (Up w w2) := U1.out.trans V2
      clear V2
      go_wp2_with fail
      refine (A3.out _ HA2.out HS2.out).mono ?_
      rintro e w3 ⟨rfl, V3⟩
      have HA3 : Hid (TabA w3) := HA2.out.up V3
      have HS3 : Hid (SlOk w3 a xs) := HS2.out.up V3
      have U3 : Hid (Up w w3) := U2.out.trans V3
      clear V3
      go_wp2_with fail
      refine (A0.out _ HA3.out HS3.out).mono ?_
      rintro e w4 ⟨rfl, V4⟩
      have HA4 : Hid (TabA w4) := HA3.out.up V4
      have HS4 : Hid (SlOk w4 a xs) := HS3.out.up V4
      have U4 : Hid (Up w w4) := U3.out.trans V4
      clear V4
      go_wp2_with fail
      refine (N1.out _ HS4.out).mono ?_
      rintro e w5 ⟨rfl, hw⟩; rw [hw]; clear hw w5
      go_wp2_with fail
      refine (N2.out _ HS4.out).mono ?_
      rintro e w5 ⟨rfl, hw⟩; rw [hw]; clear hw w5
      go_wp2_with fail
      refine (CA.out _ HA4.out).mono ?_
      rintro e w5 ⟨rfl, o1, hw⟩; rw [hw]; clear hw w5
      go_wp2_with fail
      refine (C0.out _).mono ?_
      rintro e w5 ⟨rfl, o2, hw⟩; rw [hw]; clear hw w5
      go_wp2_with fail
      go_ret
      exact ⟨ret_bool (by simp), U4.out.trans (by repeat (first | exact Up.refl _ | refine up_drewN ?_ _ | refine Up.alloc ?_ _))⟩
    | some z =>
      obtain ⟨z1, z2⟩ := R2.out z rfl
      have zz : decide (0 < z) = true := decide_eq_true (by omega)
      simp only [optN, Option.isSome] at A1 A2 A3 N1 N2
      clear R2
      go_enter Tryd.func6, Tryd.ntmps6
      go_wp2_with fail
      refine (BU.out _ HS.out).mono ?_
      rintro e w1 ⟨rfl, hw⟩; rw [hw]; clear hw w1
      go_wp2_with fail
      refine (WO.out _ HS.out).mono ?_
      rintro e w1 ⟨rfl, hw⟩; rw [hw]; clear hw w1
      go_wp2_with fail
      refine (A1.out _ HA.out HS.out).mono ?_
      rintro e w1 ⟨rfl, V1⟩
      have HA1 : Hid (TabA w1) := HA.out.up V1
      have HS1 : Hid (SlOk w1 a xs) := HS.out.up V1
      have U1 : Hid (Up w w1) := V1
      clear V1
      go_wp2_with fail
      refine (A2.out _ HA1.out HS1.out).mono ?_
      rintro e w2 ⟨rfl, V2⟩
      have HA2 : Hid (TabA w2) := HA1.out.up V2
      have HS2 : Hid (SlOk w2 a xs) := HS1.out.up V2
      have U2 : Hid (Up w w2) := U1.out.trans V2
      clear V2
      go_wp2_with fail
      refine (A3.out _ HA2.out HS2.out).mono ?_
      rintro e w3 ⟨rfl, V3⟩
      have HA3 : Hid (TabA w3) := HA2.out.up V3
      have HS3 : Hid (SlOk w3 a xs) := HS2.out.up V3
      have U3 : Hid (Up w w3) := U2.out.trans V3
      clear V3
      go_wp2_with fail
      refine (A0.out _ HA3.out HS3.out).mono ?_
      rintro e w4 ⟨rfl, V4⟩
      have HA4 : Hid (TabA w4) := HA3.out.up V4
      have HS4 : Hid (SlOk w4 a xs) := HS3.out.up V4
      have U4 : Hid (Up w w4) := U3.out.trans V4
      clear V4
      go_wp2_with fail
      refine (N1.out _ HS4.out).mono ?_
      rintro e w5 ⟨rfl, hw⟩; rw [hw]; clear hw w5
      go_wp2_with fail
      refine (N2.out _ HS4.out).mono ?_
      rintro e w5 ⟨rfl, hw⟩; rw [hw]; clear hw w5
      go_wp2_with fail
      refine (CA.out _ HA4.out).mono ?_
      rintro e w5 ⟨rfl, o1, hw⟩; rw [hw]; clear hw w5
      go_wp2_with fail
      refine (C0.out _).mono ?_
      rintro e w5 ⟨rfl, o2, hw⟩; rw [hw]; clear hw w5
      go_wp2_with fail
      go_ret
      exact ⟨ret_bool (by simp), U4.out.trans (by repeat (first | exact Up.refl _ | refine up_drewN ?_ _ | refine Up.alloc ?_ _))⟩
  | some x =>
    obtain ⟨⟨x1, x2⟩, x3⟩ := R1.out x rfl
    obtain ⟨y', k', cx⟩ := CX.out x rfl
    have CXX : Hid (∀ w : World, TabA w → Calls Tryd.prog 11 #[.int .i64 x] w fun e w' => e = .returned (.tuple #[.agg #[.int .i64 y', .int .i64 (dM x), .int .i64 k'], .bool true]) ∧ ∃ o, w' = w.alloc o) := cx
    simp only [modO, x3] at e3
    clear CX R1 cx x3 C0
    generalize dM x = mx at *
    by_cases g : mx = m
    · rw [if_pos (by simp [g])] at e3
      subst e3
      have g2 : (mx == m) = true := by simp [g]
      clear g
      cases q2 with
      | none =>
        simp only [optN, Option.isSome] at A1 A2 A3 N1 N2
        clear R2
        go_enter Tryd.func6, Tryd.ntmps6
        go_wp2_with fail
        refine (BU.out _ HS.out).mono ?_
        rintro e w1 ⟨rfl, hw⟩; rw [hw]; clear hw w1
        go_wp2_with fail
        refine (WO.out _ HS.out).mono ?_
        rintro e w1 ⟨rfl, hw⟩; rw [hw]; clear hw w1
        go_wp2_with fail
        refine (A1.out _ HA.out HS.out).mono ?_
        rintro e w1 ⟨rfl, V1⟩
        have HA1 : Hid (TabA w1) := HA.out.up V1
        have HS1 : Hid (SlOk w1 a xs) := HS.out.up V1
        have U1 : Hid (Up w w1) := V1
        clear V1
        go_wp2_with fail
        refine (A2.out _ HA1.out HS1.out).mono ?_
        rintro e w2 ⟨rfl, V2⟩
        have HA2 : Hid (TabA w2) := HA1.out.up V2
        have HS2 : Hid (SlOk w2 a xs) := HS1.out.up V2
        have U2 : Hid (Up w w2) := U1.out.trans V2
        clear V2
        go_wp2_with fail
        refine (A3.out _ HA2.out HS2.out).mono ?_
        rintro e w3 ⟨rfl, V3⟩
        have HA3 : Hid (TabA w3) := HA2.out.up V3
        have HS3 : Hid (SlOk w3 a xs) := HS2.out.up V3
        have U3 : Hid (Up w w3) := U2.out.trans V3
        clear V3
        go_wp2_with fail
        refine (A0.out _ HA3.out HS3.out).mono ?_
        rintro e w4 ⟨rfl, V4⟩
        have HA4 : Hid (TabA w4) := HA3.out.up V4
        have HS4 : Hid (SlOk w4 a xs) := HS3.out.up V4
        have U4 : Hid (Up w w4) := U3.out.trans V4
        clear V4
        go_wp2_with fail
        refine (N1.out _ HS4.out).mono ?_
        rintro e w5 ⟨rfl, hw⟩; rw [hw]; clear hw w5
        go_wp2_with fail
        refine (N2.out _ HS4.out).mono ?_
        rintro e w5 ⟨rfl, hw⟩; rw [hw]; clear hw w5
        go_wp2_with fail
        refine (CA.out _ HA4.out).mono ?_
        rintro e w5 ⟨rfl, o1, hw⟩; rw [hw]; clear hw w5
        go_wp2_with fail
        refine (CXX.out _ (HA4.out.al _ |>.al _)).mono ?_
        rintro e w5 ⟨rfl, o2, hw⟩; rw [hw]; clear hw w5
        go_wp2_with fail
        go_ret
        exact ⟨ret_bool (by simp), U4.out.trans (by repeat (first | exact Up.refl _ | refine up_drewN ?_ _ | refine Up.alloc ?_ _))⟩
      | some z =>
        obtain ⟨z1, z2⟩ := R2.out z rfl
        have zz : decide (0 < z) = true := decide_eq_true (by omega)
        simp only [optN, Option.isSome] at A1 A2 A3 N1 N2
        clear R2
        go_enter Tryd.func6, Tryd.ntmps6
        go_wp2_with fail
        refine (BU.out _ HS.out).mono ?_
        rintro e w1 ⟨rfl, hw⟩; rw [hw]; clear hw w1
        go_wp2_with fail
        refine (WO.out _ HS.out).mono ?_
        rintro e w1 ⟨rfl, hw⟩; rw [hw]; clear hw w1
        go_wp2_with fail
        refine (A1.out _ HA.out HS.out).mono ?_
        rintro e w1 ⟨rfl, V1⟩
        have HA1 : Hid (TabA w1) := HA.out.up V1
        have HS1 : Hid (SlOk w1 a xs) := HS.out.up V1
        have U1 : Hid (Up w w1) := V1
        clear V1
        go_wp2_with fail
        refine (A2.out _ HA1.out HS1.out).mono ?_
        rintro e w2 ⟨rfl, V2⟩
        have HA2 : Hid (TabA w2) := HA1.out.up V2
        have HS2 : Hid (SlOk w2 a xs) := HS1.out.up V2
        have U2 : Hid (Up w w2) := U1.out.trans V2
        clear V2
        go_wp2_with fail
        refine (A3.out _ HA2.out HS2.out).mono ?_
        rintro e w3 ⟨rfl, V3⟩
        have HA3 : Hid (TabA w3) := HA2.out.up V3
        have HS3 : Hid (SlOk w3 a xs) := HS2.out.up V3
        have U3 : Hid (Up w w3) := U2.out.trans V3
        clear V3
        go_wp2_with fail
        refine (A0.out _ HA3.out HS3.out).mono ?_
        rintro e w4 ⟨rfl, V4⟩
        have HA4 : Hid (TabA w4) := HA3.out.up V4
        have HS4 : Hid (SlOk w4 a xs) := HS3.out.up V4
        have U4 : Hid (Up w w4) := U3.out.trans V4
        clear V4
        go_wp2_with fail
        refine (N1.out _ HS4.out).mono ?_
        rintro e w5 ⟨rfl, hw⟩; rw [hw]; clear hw w5
        go_wp2_with fail
        refine (N2.out _ HS4.out).mono ?_
        rintro e w5 ⟨rfl, hw⟩; rw [hw]; clear hw w5
        go_wp2_with fail
        refine (CA.out _ HA4.out).mono ?_
        rintro e w5 ⟨rfl, o1, hw⟩; rw [hw]; clear hw w5
        go_wp2_with fail
        refine (CXX.out _ (HA4.out.al _ |>.al _)).mono ?_
        rintro e w5 ⟨rfl, o2, hw⟩; rw [hw]; clear hw w5
        go_wp2_with fail
        go_ret
        exact ⟨ret_bool (by simp), U4.out.trans (by repeat (first | exact Up.refl _ | refine up_drewN ?_ _ | refine Up.alloc ?_ _))⟩
    · rw [if_neg (by simp [g])] at e3
      subst e3
      have g2 : (mx == m) = false := by simp [g]
      cases q2 with
      | none =>
        simp only [optN, Option.isSome] at A1 A2 A3 N1 N2
        clear R2
        go_enter Tryd.func6, Tryd.ntmps6
        go_wp2_with fail
        refine (BU.out _ HS.out).mono ?_
        rintro e w1 ⟨rfl, hw⟩; rw [hw]; clear hw w1
        go_wp2_with fail
        refine (WO.out _ HS.out).mono ?_
        rintro e w1 ⟨rfl, hw⟩; rw [hw]; clear hw w1
        go_wp2_with fail
        refine (A1.out _ HA.out HS.out).mono ?_
        rintro e w1 ⟨rfl, V1⟩
        have HA1 : Hid (TabA w1) := HA.out.up V1
        have HS1 : Hid (SlOk w1 a xs) := HS.out.up V1
        have U1 : Hid (Up w w1) := V1
        clear V1
        go_wp2_with fail
        refine (A2.out _ HA1.out HS1.out).mono ?_
        rintro e w2 ⟨rfl, V2⟩
        have HA2 : Hid (TabA w2) := HA1.out.up V2
        have HS2 : Hid (SlOk w2 a xs) := HS1.out.up V2
        have U2 : Hid (Up w w2) := U1.out.trans V2
        clear V2
        go_wp2_with fail
        refine (A3.out _ HA2.out HS2.out).mono ?_
        rintro e w3 ⟨rfl, V3⟩
        have HA3 : Hid (TabA w3) := HA2.out.up V3
        have HS3 : Hid (SlOk w3 a xs) := HS2.out.up V3
        have U3 : Hid (Up w w3) := U2.out.trans V3
        clear V3
        go_wp2_with fail
        refine (A0.out _ HA3.out HS3.out).mono ?_
        rintro e w4 ⟨rfl, V4⟩
        have HA4 : Hid (TabA w4) := HA3.out.up V4
        have HS4 : Hid (SlOk w4 a xs) := HS3.out.up V4
        have U4 : Hid (Up w w4) := U3.out.trans V4
        clear V4
        go_wp2_with fail
        refine (N1.out _ HS4.out).mono ?_
        rintro e w5 ⟨rfl, hw⟩; rw [hw]; clear hw w5
        go_wp2_with fail
        refine (N2.out _ HS4.out).mono ?_
        rintro e w5 ⟨rfl, hw⟩; rw [hw]; clear hw w5
        go_wp2_with fail
        refine (CA.out _ HA4.out).mono ?_
        rintro e w5 ⟨rfl, o1, hw⟩; rw [hw]; clear hw w5
        go_wp2_with fail
        refine (CXX.out _ (HA4.out.al _ |>.al _)).mono ?_
        rintro e w5 ⟨rfl, o2, hw⟩; rw [hw]; clear hw w5
        go_wp2_with fail
        go_ret
        exact ⟨ret_bool (by simp), U4.out.trans (by repeat (first | exact Up.refl _ | refine up_drewN ?_ _ | refine Up.alloc ?_ _))⟩
      | some z =>
        obtain ⟨z1, z2⟩ := R2.out z rfl
        have zz : decide (0 < z) = true := decide_eq_true (by omega)
        simp only [optN, Option.isSome] at A1 A2 A3 N1 N2
        clear R2
        go_enter Tryd.func6, Tryd.ntmps6
        go_wp2_with fail
        refine (BU.out _ HS.out).mono ?_
        rintro e w1 ⟨rfl, hw⟩; rw [hw]; clear hw w1
        go_wp2_with fail
        refine (WO.out _ HS.out).mono ?_
        rintro e w1 ⟨rfl, hw⟩; rw [hw]; clear hw w1
        go_wp2_with fail
        refine (A1.out _ HA.out HS.out).mono ?_
        rintro e w1 ⟨rfl, V1⟩
        have HA1 : Hid (TabA w1) := HA.out.up V1
        have HS1 : Hid (SlOk w1 a xs) := HS.out.up V1
        have U1 : Hid (Up w w1) := V1
        clear V1
        go_wp2_with fail
        refine (A2.out _ HA1.out HS1.out).mono ?_
        rintro e w2 ⟨rfl, V2⟩
        have HA2 : Hid (TabA w2) := HA1.out.up V2
        have HS2 : Hid (SlOk w2 a xs) := HS1.out.up V2
        have U2 : Hid (Up w w2) := U1.out.trans V2
        clear V2
        go_wp2_with fail
        refine (A3.out _ HA2.out HS2.out).mono ?_
        rintro e w3 ⟨rfl, V3⟩
        have HA3 : Hid (TabA w3) := HA2.out.up V3
        have HS3 : Hid (SlOk w3 a xs) := HS2.out.up V3
        have U3 : Hid (Up w w3) := U2.out.trans V3
        clear V3
        go_wp2_with fail
        refine (A0.out _ HA3.out HS3.out).mono ?_
        rintro e w4 ⟨rfl, V4⟩
        have HA4 : Hid (TabA w4) := HA3.out.up V4
        have HS4 : Hid (SlOk w4 a xs) := HS3.out.up V4
        have U4 : Hid (Up w w4) := U3.out.trans V4
        clear V4
        go_wp2_with fail
        refine (N1.out _ HS4.out).mono ?_
        rintro e w5 ⟨rfl, hw⟩; rw [hw]; clear hw w5
        go_wp2_with fail
        refine (N2.out _ HS4.out).mono ?_
        rintro e w5 ⟨rfl, hw⟩; rw [hw]; clear hw w5
        go_wp2_with fail
        refine (CA.out _ HA4.out).mono ?_
        rintro e w5 ⟨rfl, o1, hw⟩; rw [hw]; clear hw w5
        go_wp2_with fail
        refine (CXX.out _ (HA4.out.al _ |>.al _)).mono ?_
        rintro e w5 ⟨rfl, o2, hw⟩; rw [hw]; clear hw w5
        go_wp2_with fail
        go_ret
        exact ⟨ret_bool (by simp), U4.out.trans (by repeat (first | exact Up.refl _ | refine up_drewN ?_ _ | refine Up.alloc ?_ _))⟩

theorem biz_walk (a : Option Addr) (cap : Nat) (xs : List Int) (day : Int) (w : World) (hA : TabA w) (hS : SlOk w a xs) :
    Calls Tryd.prog 6 #[.int .i64 day, .slice a xs.length cap] w fun e w' => e = .returned (.bool true) ∧ Up w w' := by
  by_cases h : xs.length ≤ 4096 ∧ 1 ≤ day ∧ day ≤ 3652059
  · exact biz_in a cap xs day h.1 h.2.1 h.2.2 w hA hS
  · exact biz_out a cap xs.length day hS.1 h w
end Go.Proofs.YtnelmgjdbheogabDoor
