/-
  Ours: contracts of calendar.sameMonth, calendar.Adjust.
-/
import Derived.Test.YtkabfdajpilomabDoorCalBus
import Derived.Test.YtkabfdajpilomabDoorCalDate
namespace Go.Proofs.YtkabfdajpilomabDoor
open Go.RowKit CalM

theorem near_from {day step : Int} {xs : List Int} : ∀ (j : Nat) (x : Int), j ≤ 11 → nearFrom day step xs j = some x → workB x xs = true ∧ ∃ k : Int, 0 ≤ k ∧ k ≤ 10 ∧ x = day + k * step
  | 0, x, _, h => by cases h
  | j + 1, x, hj, h => by
    unfold nearFrom at h
    by_cases g : workB (day + (10 - (j : Int)) * step) xs = true
    · rw [if_pos g] at h
      obtain rfl := Option.some.inj h
      exact ⟨g, 10 - (j : Int), by omega, by omega, rfl⟩
    · rw [if_neg g] at h
      exact near_from j x (by omega) h
theorem near_works {day step : Int} {xs : List Int} {x : Int} (h : near day step xs = some x) : (1 ≤ x ∧ x ≤ 3652059) ∧ ∃ k : Int, 0 ≤ k ∧ k ≤ 10 ∧ x = day + k * step := by
  obtain ⟨a, b⟩ := near_from 11 x (by omega) h
  exact ⟨(of_decide_eq_true a).1, b⟩

/-- The same month of the same year. -/
noncomputable def smB (a b : Int) : Bool := decide (dY a = dY b ∧ dM a = dM b)

set_option maxHeartbeats 1000000 in
theorem sameMonth_at (a b : Int) (a1 : 1 ≤ a) (a2 : a ≤ 3652059) (b1 : 1 ≤ b) (b2 : b ≤ 3652059) (g : Bool) (hg : smB a b = g) (w : World) (hA : TabA w) :
    Calls Tryd.prog 56 #[.int .i64 a, .int .i64 b] w fun e w' => e = .returned (.bool g) ∧ Up w w' := by
  obtain ⟨oka, ea⟩ := date_spec a a1 a2
  obtain ⟨okb, eb⟩ := date_spec b b1 b2
  unfold smB at hg
  generalize dY a = y at *
  generalize dM a = m at *
  generalize dK a = k at *
  generalize dY b = y' at *
  generalize dM b = m' at *
  generalize dK b = k' at *
  have CF : Hid (∀ w : World, TabA w → Calls Tryd.prog 12 #[.int .i64 a] w fun e w' => e = .returned (.tuple #[.agg #[.int .i64 y, .int .i64 m, .int .i64 k], .bool true]) ∧ ∃ o, w' = w.alloc o) := fun w hA => civil_at y m k a oka ea w hA
  have CT : Hid (∀ w : World, TabA w → Calls Tryd.prog 12 #[.int .i64 b] w fun e w' => e = .returned (.tuple #[.agg #[.int .i64 y', .int .i64 m', .int .i64 k'], .bool true]) ∧ ∃ o, w' = w.alloc o) := fun w hA => civil_at y' m' k' b okb eb w hA
  have HA : Hid (TabA w) := hA
  have HG : Hid (decide (y = y' ∧ m = m') = g) := hg
  clear hA hg ea eb oka okb a1 a2 b1 b2
  by_cases h : y = y'
  · go_enter Tryd.func56, Tryd.ntmps56
    go_wp2_with fail
    refine (CF.out _ (by repeat (first | exact HA.out | refine TabA.al ?_ _))).mono ?_
    rintro e w1 ⟨rfl, o1, hw⟩; rw [hw]; clear hw w1
    go_wp2_with fail
    refine (CT.out _ (by repeat (first | exact HA.out | refine TabA.al ?_ _))).mono ?_
    rintro e w1 ⟨rfl, o2, hw⟩; rw [hw]; clear hw w1
    go_wp2_with fail
    go_ret
    exact ⟨ret_bool (by rw [← HG.out, Bool.eq_iff_iff]; simp [h]), by repeat (first | exact Up.refl _ | refine up_drewN ?_ _ | refine Up.alloc ?_ _)⟩
  · go_enter Tryd.func56, Tryd.ntmps56
    go_wp2_with fail
    refine (CF.out _ (by repeat (first | exact HA.out | refine TabA.al ?_ _))).mono ?_
    rintro e w1 ⟨rfl, o1, hw⟩; rw [hw]; clear hw w1
    go_wp2_with fail
    refine (CT.out _ (by repeat (first | exact HA.out | refine TabA.al ?_ _))).mono ?_
    rintro e w1 ⟨rfl, o2, hw⟩; rw [hw]; clear hw w1
    go_wp2_with fail
    go_ret
    exact ⟨ret_bool (by rw [← HG.out, Bool.eq_iff_iff]; simp [h]), by repeat (first | exact Up.refl _ | refine up_drewN ?_ _ | refine Up.alloc ?_ _)⟩

/-- What Adjust answers. -/
noncomputable def adjO (day : Int) (xs : List Int) (rule : Int) : Option Int :=
  if ¬(1 ≤ day ∧ day ≤ 3652059) then none
  else if rule = 0 then some day
  else if rule = 1 then near day 1 xs
  else if rule = 2 then near day (-1) xs
  else if rule = 3 then (match near day 1 xs with | some n => if smB day n then some n else near day (-1) xs | none => near day (-1) xs)
  else none

set_option maxHeartbeats 2000000 in
theorem adjust_at (a : Option Addr) (cap : Nat) (xs : List Int) (day rule : Int) (r : Option Int) (hr : adjO day xs rule = r) (w : World) (hA : TabA w) (h : SlOk w a xs) :
    Calls Tryd.prog 41 #[.int .i64 day, .slice a xs.length cap, .int .i64 rule] w fun e w' => e = .returned (.tuple #[.int .i64 (optN r), .bool r.isSome]) ∧ Up w w' := by
  unfold adjO at hr
  by_cases hd : 1 ≤ day ∧ day ≤ 3652059
  · have ID : Hid (∀ w, Calls Tryd.prog 27 #[.int .i64 day] w fun e w' => e = .returned (.bool true) ∧ w' = w) := fun w => isDay_at day true (decide_eq_true hd) w
    have NR : Hid (∀ (step : Int) (r : Option Int) (w : World), SlOk w a xs → (step = 1 ∨ step = -1) → near day step xs = r → Calls Tryd.prog 55 #[.int .i64 day, .int .i64 step, .slice a xs.length cap] w fun e w' => e = .returned (.tuple #[.int .i64 (optN r), .bool r.isSome]) ∧ w' = w) := fun step r w h hs hr => nearest_at a cap xs day step r hr hd.1 hd.2 hs w h
    rw [if_neg (fun g => g hd)] at hr
    have HS : Hid (SlOk w a xs) := h
    have HA : Hid (TabA w) := hA
    clear h hA
    generalize hL : xs.length = L at *
    clear hL
    by_cases r0 : rule = 0
    · subst r0
      simp at hr
      subst hr
      clear NR hd
      go_enter Tryd.func41, Tryd.ntmps41
      go_wp2_with fail
      refine (ID.out _).mono ?_
      rintro e w1 ⟨rfl, hw⟩; rw [hw]; clear hw w1
      go_wp2_with fail
      go_ret2
      exact ⟨rfl, Up.refl _⟩
    rw [if_neg r0] at hr
    by_cases r1 : rule = 1
    · subst r1
      rw [if_pos rfl] at hr
      have N1 : Hid (∀ w : World, SlOk w a xs → Calls Tryd.prog 55 #[.int .i64 day, .int .i64 1, .slice a L cap] w fun e w' => e = .returned (.tuple #[.int .i64 (optN r), .bool r.isSome]) ∧ w' = w) := fun w h => NR.out 1 r w h (Or.inl rfl) hr
      clear NR hd hr
      go_enter Tryd.func41, Tryd.ntmps41
      go_wp2_with fail
      refine (ID.out _).mono ?_
      rintro e w1 ⟨rfl, hw⟩; rw [hw]; clear hw w1
      go_wp2_with fail
      refine (N1.out _ HS.out).mono ?_
      rintro e w1 ⟨rfl, hw⟩; rw [hw]; clear hw w1
      go_wp2_with fail
      go_ret2
      exact ⟨rfl, Up.refl _⟩
    rw [if_neg r1] at hr
    by_cases r2 : rule = 2
    · subst r2
      rw [if_pos rfl] at hr
      have N1 : Hid (∀ w : World, SlOk w a xs → Calls Tryd.prog 55 #[.int .i64 day, .int .i64 (-1), .slice a L cap] w fun e w' => e = .returned (.tuple #[.int .i64 (optN r), .bool r.isSome]) ∧ w' = w) := fun w h => NR.out (-1) r w h (Or.inr rfl) hr
      clear NR hd hr
      go_enter Tryd.func41, Tryd.ntmps41
      go_wp2_with fail
      refine (ID.out _).mono ?_
      rintro e w1 ⟨rfl, hw⟩; rw [hw]; clear hw w1
      go_wp2_with fail
      refine (N1.out _ HS.out).mono ?_
      rintro e w1 ⟨rfl, hw⟩; rw [hw]; clear hw w1
      go_wp2_with fail
      go_ret2
      exact ⟨rfl, Up.refl _⟩
    rw [if_neg r2] at hr
    by_cases r3 : rule = 3
    · subst r3
      rw [if_pos rfl] at hr
      obtain ⟨q, hq⟩ : ∃ q, near day 1 xs = q := ⟨_, rfl⟩
      rw [hq] at hr
      have N1 : Hid (∀ w : World, SlOk w a xs → Calls Tryd.prog 55 #[.int .i64 day, .int .i64 1, .slice a L cap] w fun e w' => e = .returned (.tuple #[.int .i64 (optN q), .bool q.isSome]) ∧ w' = w) := fun w h => NR.out 1 q w h (Or.inl rfl) hq
      cases q with
      | none =>
        simp only at hr
        have N2 : Hid (∀ w : World, SlOk w a xs → Calls Tryd.prog 55 #[.int .i64 day, .int .i64 (-1), .slice a L cap] w fun e w' => e = .returned (.tuple #[.int .i64 (optN r), .bool r.isSome]) ∧ w' = w) := fun w h => NR.out (-1) r w h (Or.inr rfl) hr
        clear NR hd hr hq
        simp only [optN, Option.isSome] at N1
        go_enter Tryd.func41, Tryd.ntmps41
        go_wp2_with fail
        refine (ID.out _).mono ?_
        rintro e w1 ⟨rfl, hw⟩; rw [hw]; clear hw w1
        go_wp2_with fail
        refine (N1.out _ HS.out).mono ?_
        rintro e w1 ⟨rfl, hw⟩; rw [hw]; clear hw w1
        go_wp2_with fail
        refine (N2.out _ HS.out).mono ?_
        rintro e w1 ⟨rfl, hw⟩; rw [hw]; clear hw w1
        go_wp2_with fail
        go_ret2
        exact ⟨rfl, Up.refl _⟩
      | some n =>
        simp only at hr
        obtain ⟨nr, _⟩ := near_works hq
        obtain ⟨g, hg⟩ : ∃ g, smB day n = g := ⟨_, rfl⟩
        rw [hg] at hr
        have SM : Hid (∀ w : World, TabA w → Calls Tryd.prog 56 #[.int .i64 day, .int .i64 n] w fun e w' => e = .returned (.bool g) ∧ Up w w') := fun w hA => sameMonth_at day n hd.1 hd.2 nr.1 nr.2 g hg w hA
        simp only [optN, Option.isSome] at N1
        cases g
        · rw [if_neg (by simp)] at hr
          have N2 : Hid (∀ w : World, SlOk w a xs → Calls Tryd.prog 55 #[.int .i64 day, .int .i64 (-1), .slice a L cap] w fun e w' => e = .returned (.tuple #[.int .i64 (optN r), .bool r.isSome]) ∧ w' = w) := fun w h => NR.out (-1) r w h (Or.inr rfl) hr
          clear NR hd hr hq hg nr
          go_enter Tryd.func41, Tryd.ntmps41
          go_wp2_with fail
          refine (ID.out _).mono ?_
          rintro e w1 ⟨rfl, hw⟩; rw [hw]; clear hw w1
          go_wp2_with fail
          refine (N1.out _ HS.out).mono ?_
          rintro e w1 ⟨rfl, hw⟩; rw [hw]; clear hw w1
          go_wp2_with fail
          refine (SM.out _ HA.out).mono ?_
          rintro e w2 ⟨rfl, U2⟩
          go_wp2_with fail
          refine (N2.out _ (HS.out.up U2)).mono ?_
          rintro e w1 ⟨rfl, hw⟩; rw [hw]; clear hw w1
          go_wp2_with fail
          go_ret2
          exact ⟨rfl, U2⟩
        · rw [if_pos rfl] at hr
          subst hr
          clear NR hd hq hg nr
          go_enter Tryd.func41, Tryd.ntmps41
          go_wp2_with fail
          refine (ID.out _).mono ?_
          rintro e w1 ⟨rfl, hw⟩; rw [hw]; clear hw w1
          go_wp2_with fail
          refine (N1.out _ HS.out).mono ?_
          rintro e w1 ⟨rfl, hw⟩; rw [hw]; clear hw w1
          go_wp2_with fail
          refine (SM.out _ HA.out).mono ?_
          rintro e w2 ⟨rfl, U2⟩
          go_wp2_with fail
          go_ret2
          exact ⟨rfl, U2⟩
    rw [if_neg r3] at hr
    subst hr
    clear NR hd
    go_enter Tryd.func41, Tryd.ntmps41
    go_wp2_with fail
    refine (ID.out _).mono ?_
    rintro e w1 ⟨rfl, hw⟩; rw [hw]; clear hw w1
    go_wp2_with fail
    go_ret2
    exact ⟨rfl, Up.refl _⟩
  · have ID : Hid (∀ w, Calls Tryd.prog 27 #[.int .i64 day] w fun e w' => e = .returned (.bool false) ∧ w' = w) := fun w => isDay_at day false (decide_eq_false hd) w
    rw [if_pos hd] at hr
    subst hr
    clear h hA hd
    generalize xs.length = L at *
    go_enter Tryd.func41, Tryd.ntmps41
    go_wp2_with fail
    refine (ID.out _).mono ?_
    rintro e w1 ⟨rfl, hw⟩; rw [hw]; clear hw w1
    go_wp2_with fail
    go_ret2
    exact ⟨rfl, Up.refl _⟩
end Go.Proofs.YtkabfdajpilomabDoor
