/-
  Ours: contracts of calendar.sameMonth, calendar.Adjust.
-/
import Derived.Test.YtgdmkcbbomfmdaaGreatDoorCalNum
import Derived.Test.YtgdmkcbbomfmdaaGreatDoorCalBus
namespace Go.Proofs.YtgdmkcbbomfmdaaGreatDoor
open Go.RowKit CalM

/-- The two draws' laws, for the walk. -/
theorem set_drewN (W : World) (n : Nat) (a : Addr) (v : Value) : (W.drewN n).setCell a v = (W.setCell a v).drewN n := rfl
theorem al_drewN (W : World) (n : Nat) (o : Obj) : (W.drewN n).alloc o = (W.alloc o).drewN n := rfl

/-- The day of the month that a step of months lands on. -/
def landI (q a : Int) : Int := min a (lenI (q / 12 + 1) (q % 12 + 1))

set_option maxHeartbeats 2000000 in
theorem addMonths_at (y m k day months a q n : Int) (h : Ok y m k) (hd : dA y m + k = day) (a1 : 1 ≤ a) (a2 : a ≤ 31) (hq : (y - 1) * 12 + m - 1 + months = q) (q1 : 0 ≤ q) (q2 : q ≤ 119987)
    (hn : dA (q / 12 + 1) (q % 12 + 1) + landI q a = n) (w : World) (hA : TabA w) (hL : TabL w) :
    Calls Tryz.prog 111 #[.int .i64 day, .int .i64 months, .int .i64 a] w fun e w' => e = .returned (.tuple #[.int .i64 n, .bool true]) ∧ ∃ o1 o2 o3 j, w' = (((w.alloc o1).alloc o2).alloc o3).drewN j := by
  have CA : Hid (∀ w : World, TabA w → Calls Tryz.prog 103 #[.int .i64 day] w fun e w' => e = .returned (.tuple #[.agg #[.int .i64 y, .int .i64 m, .int .i64 k], .bool true]) ∧ ∃ o, w' = w.alloc o) := fun w hA => civil_at y m k day h hd w hA
  obtain ⟨y1, y2, m1, m2, k1, k2⟩ := h
  have HA : Hid (TabA w) := hA
  have HL : Hid (TabL w) := hL
  have ML : Hid (∀ w : World, TabL w → Calls Tryz.prog 130 #[.int .i64 (q / 12 + 1), .int .i64 (q % 12 + 1)] w fun e w' => e = .returned (.int .i64 (lenI (q / 12 + 1) (q % 12 + 1))) ∧ w' = w) := fun w hL => monthLen_at _ _ _ (by omega) (by omega) (by omega) (by omega) rfl w hL
  have l1 := len_low (q / 12 + 1) (q % 12 + 1)
  have l2 := len_high (q / 12 + 1) (q % 12 + 1)
  have NU : Hid (∀ (x : Int) (w : World), x = landI q a → TabA w → TabL w → Calls Tryz.prog 129 #[.agg #[.int .i64 (q / 12 + 1), .int .i64 (q % 12 + 1), .int .i64 x]] w fun e w' => e = .returned (.tuple #[.int .i64 n, .bool true]) ∧ ∃ o n, w' = (w.alloc o).drewN n) := fun x w hx hA hL => by
    subst hx
    refine number_at _ _ _ n ⟨by omega, by omega, by omega, by omega, ?_, ?_⟩ hn w hA hL <;> unfold landI <;> omega
  have LD : landI q a = min a (lenI (q / 12 + 1) (q % 12 + 1)) := rfl
  clear hA hL hd hn k1 k2
  generalize lenI (q / 12 + 1) (q % 12 + 1) = L at *
  generalize landI q a = D at *
  have HD : Hid (D = min a L) := LD
  have t1 : ¬ months < -((y - 1) * 12 + m - 1) := by omega
  have t2 : ¬ 119987 - ((y - 1) * 12 + m - 1) < months := by omega
  clear LD
  subst hq
  go_enter Tryz.func111, Tryz.ntmps111
  go_wp2_with fail
  refine (CA.out _ (by repeat (first | exact HA.out | refine TabA.dr ?_ _ | refine TabA.al ?_ _))).mono ?_
  rintro e w1 ⟨rfl, o1, hw⟩; rw [hw]; clear hw w1
  go_wp2_with fail
  refine (ML.out _ (by repeat (first | exact HL.out | refine TabL.dr ?_ _ | refine TabL.al ?_ _))).mono ?_
  rintro e w1 ⟨rfl, hw⟩; rw [hw]; clear hw w1
  go_wp2_with fail
  all_goals
    refine (NU.out _ _ (by have := HD.out; omega) (by repeat (first | exact HA.out | refine TabA.dr ?_ _ | refine TabA.al ?_ _)) (by repeat (first | exact HL.out | refine TabL.dr ?_ _ | refine TabL.al ?_ _))).mono ?_
    rintro e w1 ⟨rfl, o2, j2, hw⟩; rw [hw]; clear hw w1
    go_wp2_with fail
    go_ret2
    exact ⟨rfl, _, _, _, _, rfl⟩

/-- Refused: no such day. -/
theorem addMonths_noday (day months a : Int) (h : ¬(1 ≤ day ∧ day ≤ 3652059)) (w : World) :
    Calls Tryz.prog 111 #[.int .i64 day, .int .i64 months, .int .i64 a] w fun e w' => e = .returned (.tuple #[.int .i64 0, .bool false]) ∧ ∃ o1 o2, w' = (w.alloc o1).alloc o2 := by
  have CN : Hid (∀ w : World, Calls Tryz.prog 103 #[.int .i64 day] w fun e w' => e = .returned (.tuple #[.agg #[.int .i64 0, .int .i64 0, .int .i64 0], .bool false]) ∧ ∃ o, w' = w.alloc o) := fun w => civil_no day h w
  clear h
  go_enter Tryz.func111, Tryz.ntmps111
  go_wp2_with fail
  refine (CN.out _).mono ?_
  rintro e w1 ⟨rfl, o1, hw⟩; rw [hw]; clear hw w1
  go_wp2_with fail
  go_ret2
  exact ⟨rfl, _, _, rfl⟩

/-- Refused: no such anchor. -/
theorem addMonths_noanchor (y m k day months a : Int) (h : Ok y m k) (hd : dA y m + k = day) (ha : ¬(1 ≤ a ∧ a ≤ 31)) (w : World) (hA : TabA w) :
    Calls Tryz.prog 111 #[.int .i64 day, .int .i64 months, .int .i64 a] w fun e w' => e = .returned (.tuple #[.int .i64 0, .bool false]) ∧ ∃ o1 o2, w' = (w.alloc o1).alloc o2 := by
  have CA : Hid (∀ w : World, TabA w → Calls Tryz.prog 103 #[.int .i64 day] w fun e w' => e = .returned (.tuple #[.agg #[.int .i64 y, .int .i64 m, .int .i64 k], .bool true]) ∧ ∃ o, w' = w.alloc o) := fun w hA => civil_at y m k day h hd w hA
  have HA : Hid (TabA w) := hA
  have t : (decide (a < 1) || decide (31 < a)) = true := by simp; omega
  clear h hd ha hA
  go_enter Tryz.func111, Tryz.ntmps111
  go_wp2_with fail
  refine (CA.out _ (by repeat (first | exact HA.out | refine TabA.dr ?_ _ | refine TabA.al ?_ _))).mono ?_
  rintro e w1 ⟨rfl, o1, hw⟩; rw [hw]; clear hw w1
  go_wp2_with fail
  all_goals
    go_ret2
    exact ⟨rfl, _, _, rfl⟩

set_option maxHeartbeats 1000000 in
/-- Refused: no such month. -/
theorem addMonths_nomonth (y m k day months a : Int) (h : Ok y m k) (hd : dA y m + k = day) (a1 : 1 ≤ a) (a2 : a ≤ 31) (hq : ¬(0 ≤ (y - 1) * 12 + m - 1 + months ∧ (y - 1) * 12 + m - 1 + months ≤ 119987)) (w : World) (hA : TabA w) :
    Calls Tryz.prog 111 #[.int .i64 day, .int .i64 months, .int .i64 a] w fun e w' => e = .returned (.tuple #[.int .i64 0, .bool false]) ∧ ∃ o1 o2, w' = (w.alloc o1).alloc o2 := by
  have CA : Hid (∀ w : World, TabA w → Calls Tryz.prog 103 #[.int .i64 day] w fun e w' => e = .returned (.tuple #[.agg #[.int .i64 y, .int .i64 m, .int .i64 k], .bool true]) ∧ ∃ o, w' = w.alloc o) := fun w hA => civil_at y m k day h hd w hA
  have HA : Hid (TabA w) := hA
  obtain ⟨y1, y2, m1, m2, k1, k2⟩ := h
  have HQ : Hid (¬(0 ≤ (y - 1) * 12 + m - 1 + months ∧ (y - 1) * 12 + m - 1 + months ≤ 119987)) := hq
  clear hd hA k2 hq
  rcases Int.lt_or_le months (-((y - 1) * 12 + m - 1)) with t | t
  · go_enter Tryz.func111, Tryz.ntmps111
    go_wp2_with fail
    refine (CA.out _ (by repeat (first | exact HA.out | refine TabA.dr ?_ _ | refine TabA.al ?_ _))).mono ?_
    rintro e w1 ⟨rfl, o1, hw⟩; rw [hw]; clear hw w1
    go_wp2_with fail
    go_ret2
    exact ⟨rfl, _, _, rfl⟩
  · have t2 : 119987 - ((y - 1) * 12 + m - 1) < months := by have := HQ.out; omega
    go_enter Tryz.func111, Tryz.ntmps111
    go_wp2_with fail
    refine (CA.out _ (by repeat (first | exact HA.out | refine TabA.dr ?_ _ | refine TabA.al ?_ _))).mono ?_
    rintro e w1 ⟨rfl, o1, hw⟩; rw [hw]; clear hw w1
    go_wp2_with fail
    go_ret2
    exact ⟨rfl, _, _, rfl⟩

/-- The answer to a step of months that lands on the month number q, at the anchor a. -/
def stepN (q a : Int) : Int := if 0 ≤ q ∧ q ≤ 119987 then dA (q / 12 + 1) (q % 12 + 1) + landI q a else 0
def stepB (q : Int) : Bool := decide (0 ≤ q ∧ q ≤ 119987)

theorem addMonths_up (y m k day months a q : Int) (h : Ok y m k) (hd : dA y m + k = day) (a1 : 1 ≤ a) (a2 : a ≤ 31) (hq : (y - 1) * 12 + m - 1 + months = q) (w : World) (hA : TabA w) (hL : TabL w) :
    Calls Tryz.prog 111 #[.int .i64 day, .int .i64 months, .int .i64 a] w fun e w' => e = .returned (.tuple #[.int .i64 (stepN q a), .bool (stepB q)]) ∧ Up w w' := by
  by_cases g : 0 ≤ q ∧ q ≤ 119987
  · have e1 : stepB q = true := decide_eq_true g
    have e2 : stepN q a = dA (q / 12 + 1) (q % 12 + 1) + landI q a := by unfold stepN; rw [if_pos g]
    rw [e1, e2]
    exact (addMonths_at y m k day months a q _ h hd a1 a2 hq g.1 g.2 rfl w hA hL).mono fun e w' ⟨he, o1, o2, o3, j, hw⟩ => ⟨he, by rw [hw]; exact up_drewN (Up.alloc (Up.alloc (Up.alloc (Up.refl w) _) _) _) _⟩
  · have e1 : stepB q = false := decide_eq_false g
    have e2 : stepN q a = 0 := by unfold stepN; rw [if_neg g]
    rw [e1, e2]
    exact (addMonths_nomonth y m k day months a h hd a1 a2 (by rw [hq]; exact g) w hA).mono fun e w' ⟨he, o1, o2, hw⟩ => ⟨he, by rw [hw]; exact (Up.alloc (Up.alloc (Up.refl w) _) _)⟩
end Go.Proofs.YtgdmkcbbomfmdaaGreatDoor

namespace Go.Proofs.YtgdmkcbbomfmdaaGreatDoor
open Go.RowKit CalM

noncomputable def dateOf (d : Int) : Int × Int × Int := if h : 1 ≤ d ∧ d ≤ 3652059 then
  (Classical.choose (civil_exists d h.1 h.2), Classical.choose (Classical.choose_spec (civil_exists d h.1 h.2)), Classical.choose (Classical.choose_spec (Classical.choose_spec (civil_exists d h.1 h.2)))) else (0, 0, 0)
noncomputable def dY (d : Int) : Int := (dateOf d).1
noncomputable def dM (d : Int) : Int := (dateOf d).2.1
noncomputable def dK (d : Int) : Int := (dateOf d).2.2

theorem date_spec (d : Int) (h1 : 1 ≤ d) (h2 : d ≤ 3652059) : Ok (dY d) (dM d) (dK d) ∧ dA (dY d) (dM d) + dK d = d := by
  unfold dY dM dK dateOf
  rw [dif_pos ⟨h1, h2⟩]
  exact Classical.choose_spec (Classical.choose_spec (Classical.choose_spec (civil_exists d h1 h2)))
theorem date_is {y m k d : Int} (h : Ok y m k) (hd : dA y m + k = d) : dY d = y ∧ dM d = m ∧ dK d = k := by
  have r := day_range h
  rw [hd] at r
  obtain ⟨a, b⟩ := date_spec d r.1 r.2
  exact date_unique a h (b.trans hd.symm)

end Go.Proofs.YtgdmkcbbomfmdaaGreatDoor

namespace Go.Proofs.YtgdmkcbbomfmdaaGreatDoor
open Go.RowKit CalM

theorem near_from {day step : Int} {xs : List Int} : ∀ (j : Nat) (x : Int), j ≤ 11 → nearFrom day step xs j = some x → workB x xs = true ∧ ∃ k : Int, 0 ≤ k ∧ k ≤ 10 ∧ x = day + k * step
  | 0, x, _, h => by cases h
  | j + 1, x, hj, h => by
    unfold nearFrom at h
    by_cases g : workB (day + (10 - (j : Int)) * step) xs = true
    · rw [if_pos g] at h
      obtain rfl := Option.some.inj h
      exact ⟨g, 10 - (j : Int), by omega, by omega, rfl⟩
    · rw [if_neg g] at h
      exact near_from j x (by omega) h
theorem near_works {day step : Int} {xs : List Int} {x : Int} (h : near day step xs = some x) : (1 ≤ x ∧ x ≤ 3652059) ∧ ∃ k : Int, 0 ≤ k ∧ k ≤ 10 ∧ x = day + k * step := by
  obtain ⟨a, b⟩ := near_from 11 x (by omega) h
  exact ⟨(of_decide_eq_true a).1, b⟩

/-- The same month of the same year. -/
noncomputable def smB (a b : Int) : Bool := decide (dY a = dY b ∧ dM a = dM b)

set_option maxHeartbeats 1000000 in
theorem sameMonth_at (a b : Int) (a1 : 1 ≤ a) (a2 : a ≤ 3652059) (b1 : 1 ≤ b) (b2 : b ≤ 3652059) (g : Bool) (hg : smB a b = g) (w : World) (hA : TabA w) :
    Calls Tryz.prog 132 #[.int .i64 a, .int .i64 b] w fun e w' => e = .returned (.bool g) ∧ Up w w' := by
  obtain ⟨oka, ea⟩ := date_spec a a1 a2
  obtain ⟨okb, eb⟩ := date_spec b b1 b2
  unfold smB at hg
  generalize dY a = y at *
  generalize dM a = m at *
  generalize dK a = k at *
  generalize dY b = y' at *
  generalize dM b = m' at *
  generalize dK b = k' at *
  have CF : Hid (∀ w : World, TabA w → Calls Tryz.prog 103 #[.int .i64 a] w fun e w' => e = .returned (.tuple #[.agg #[.int .i64 y, .int .i64 m, .int .i64 k], .bool true]) ∧ ∃ o, w' = w.alloc o) := fun w hA => civil_at y m k a oka ea w hA
  have CT : Hid (∀ w : World, TabA w → Calls Tryz.prog 103 #[.int .i64 b] w fun e w' => e = .returned (.tuple #[.agg #[.int .i64 y', .int .i64 m', .int .i64 k'], .bool true]) ∧ ∃ o, w' = w.alloc o) := fun w hA => civil_at y' m' k' b okb eb w hA
  have HA : Hid (TabA w) := hA
  have HG : Hid (decide (y = y' ∧ m = m') = g) := hg
  clear hA hg ea eb oka okb a1 a2 b1 b2
  by_cases h : y = y'
  · go_enter Tryz.func132, Tryz.ntmps132
    go_wp2_with fail
    refine (CF.out _ (by repeat (first | exact HA.out | refine TabA.al ?_ _))).mono ?_
    rintro e w1 ⟨rfl, o1, hw⟩; rw [hw]; clear hw w1
    go_wp2_with fail
    refine (CT.out _ (by repeat (first | exact HA.out | refine TabA.al ?_ _))).mono ?_
    rintro e w1 ⟨rfl, o2, hw⟩; rw [hw]; clear hw w1
    go_wp2_with fail
    go_ret
    exact ⟨ret_bool (by rw [← HG.out, Bool.eq_iff_iff]; simp [h]), by repeat (first | exact Up.refl _ | refine up_drewN ?_ _ | refine Up.alloc ?_ _)⟩
  · go_enter Tryz.func132, Tryz.ntmps132
    go_wp2_with fail
    refine (CF.out _ (by repeat (first | exact HA.out | refine TabA.al ?_ _))).mono ?_
    rintro e w1 ⟨rfl, o1, hw⟩; rw [hw]; clear hw w1
    go_wp2_with fail
    refine (CT.out _ (by repeat (first | exact HA.out | refine TabA.al ?_ _))).mono ?_
    rintro e w1 ⟨rfl, o2, hw⟩; rw [hw]; clear hw w1
    go_wp2_with fail
    go_ret
    exact ⟨ret_bool (by rw [← HG.out, Bool.eq_iff_iff]; simp [h]), by repeat (first | exact Up.refl _ | refine up_drewN ?_ _ | refine Up.alloc ?_ _)⟩

/-- What Adjust answers. -/
noncomputable def adjO (day : Int) (xs : List Int) (rule : Int) : Option Int :=
  if ¬(1 ≤ day ∧ day ≤ 3652059) then none
  else if rule = 0 then some day
  else if rule = 1 then near day 1 xs
  else if rule = 2 then near day (-1) xs
  else if rule = 3 then (match near day 1 xs with | some n => if smB day n then some n else near day (-1) xs | none => near day (-1) xs)
  else none

set_option maxHeartbeats 2000000 in
theorem adjust_at (a : Option Addr) (cap : Nat) (xs : List Int) (day rule : Int) (r : Option Int) (hr : adjO day xs rule = r) (w : World) (hA : TabA w) (h : SlOk w a xs) :
    Calls Tryz.prog 112 #[.int .i64 day, .slice a xs.length cap, .int .i64 rule] w fun e w' => e = .returned (.tuple #[.int .i64 (optN r), .bool r.isSome]) ∧ Up w w' := by
  unfold adjO at hr
  by_cases hd : 1 ≤ day ∧ day ≤ 3652059
  · have ID : Hid (∀ w, Calls Tryz.prog 120 #[.int .i64 day] w fun e w' => e = .returned (.bool true) ∧ w' = w) := fun w => isDay_at day true (decide_eq_true hd) w
    have NR : Hid (∀ (step : Int) (r : Option Int) (w : World), SlOk w a xs → (step = 1 ∨ step = -1) → near day step xs = r → Calls Tryz.prog 131 #[.int .i64 day, .int .i64 step, .slice a xs.length cap] w fun e w' => e = .returned (.tuple #[.int .i64 (optN r), .bool r.isSome]) ∧ w' = w) := fun step r w h hs hr => nearest_at a cap xs day step r hr hd.1 hd.2 hs w h
    rw [if_neg (fun g => g hd)] at hr
    have HS : Hid (SlOk w a xs) := h
    have HA : Hid (TabA w) := hA
    clear h hA
    generalize hL : xs.length = L at *
    clear hL
    by_cases r0 : rule = 0
    · subst r0
      simp at hr
      subst hr
      clear NR hd
      go_enter Tryz.func112, Tryz.ntmps112
      go_wp2_with fail
      refine (ID.out _).mono ?_
      rintro e w1 ⟨rfl, hw⟩; rw [hw]; clear hw w1
      go_wp2_with fail
      go_ret2
      exact ⟨rfl, Up.refl _⟩
    rw [if_neg r0] at hr
    by_cases r1 : rule = 1
    · subst r1
      rw [if_pos rfl] at hr
      have N1 : Hid (∀ w : World, SlOk w a xs → Calls Tryz.prog 131 #[.int .i64 day, .int .i64 1, .slice a L cap] w fun e w' => e = .returned (.tuple #[.int .i64 (optN r), .bool r.isSome]) ∧ w' = w) := fun w h => NR.out 1 r w h (Or.inl rfl) hr
      clear NR hd hr
      go_enter Tryz.func112, Tryz.ntmps112
      go_wp2_with fail
      refine (ID.out _).mono ?_
      rintro e w1 ⟨rfl, hw⟩; rw [hw]; clear hw w1
      go_wp2_with fail
      refine (N1.out _ HS.out).mono ?_
      rintro e w1 ⟨rfl, hw⟩; rw [hw]; clear hw w1
      go_wp2_with fail
      go_ret2
      exact ⟨rfl, Up.refl _⟩
    rw [if_neg r1] at hr
    by_cases r2 : rule = 2
    · subst r2
      rw [if_pos rfl] at hr
      have N1 : Hid (∀ w : World, SlOk w a xs → Calls Tryz.prog 131 #[.int .i64 day, .int .i64 (-1), .slice a L cap] w fun e w' => e = .returned (.tuple #[.int .i64 (optN r), .bool r.isSome]) ∧ w' = w) := fun w h => NR.out (-1) r w h (Or.inr rfl) hr
      clear NR hd hr
      go_enter Tryz.func112, Tryz.ntmps112
      go_wp2_with fail
      refine (ID.out _).mono ?_
      rintro e w1 ⟨rfl, hw⟩; rw [hw]; clear hw w1
      go_wp2_with fail
      refine (N1.out _ HS.out).mono ?_
      rintro e w1 ⟨rfl, hw⟩; rw [hw]; clear hw w1
      go_wp2_with fail
      go_ret2
      exact ⟨rfl, Up.refl _⟩
    rw [if_neg r2] at hr
    by_cases r3 : rule = 3
    · subst r3
      rw [if_pos rfl] at hr
      obtain ⟨q, hq⟩ : ∃ q, near day 1 xs = q := ⟨_, rfl⟩
      rw [hq] at hr
      have N1 : Hid (∀ w : World, SlOk w a xs → Calls Tryz.prog 131 #[.int .i64 day, .int .i64 1, .slice a L cap] w fun e w' => e = .returned (.tuple #[.int .i64 (optN q), .bool q.isSome]) ∧ w' = w) := fun w h => NR.out 1 q w h (Or.inl rfl) hq
      cases q with
      | none =>
        simp only at hr
        have N2 : Hid (∀ w : World, SlOk w a xs → Calls Tryz.prog 131 #[.int .i64 day, .int .i64 (-1), .slice a L cap] w fun e w' => e = .returned (.tuple #[.int .i64 (optN r), .bool r.isSome]) ∧ w' = w) := fun w h => NR.out (-1) r w h (Or.inr rfl) hr
        clear NR hd hr hq
        simp only [optN, Option.isSome] at N1
        go_enter Tryz.func112, Tryz.ntmps112
        go_wp2_with fail
        refine (ID.out _).mono ?_
        rintro e w1 ⟨rfl, hw⟩; rw [hw]; clear hw w1
        go_wp2_with fail
        refine (N1.out _ HS.out).mono ?_
        rintro e w1 ⟨rfl, hw⟩; rw [hw]; clear hw w1
        go_wp2_with fail
        refine (N2.out _ HS.out).mono ?_
        rintro e w1 ⟨rfl, hw⟩; rw [hw]; clear hw w1
        go_wp2_with fail
        go_ret2
        exact ⟨rfl, Up.refl _⟩
      | some n =>
        simp only at hr
        obtain ⟨nr, _⟩ := near_works hq
        obtain ⟨g, hg⟩ : ∃ g, smB day n = g := ⟨_, rfl⟩
        rw [hg] at hr
        have SM : Hid (∀ w : World, TabA w → Calls Tryz.prog 132 #[.int .i64 day, .int .i64 n] w fun e w' => e = .returned (.bool g) ∧ Up w w') := fun w hA => sameMonth_at day n hd.1 hd.2 nr.1 nr.2 g hg w hA
        simp only [optN, Option.isSome] at N1
        cases g
        · rw [if_neg (by simp)] at hr
          have N2 : Hid (∀ w : World, SlOk w a xs → Calls Tryz.prog 131 #[.int .i64 day, .int .i64 (-1), .slice a L cap] w fun e w' => e = .returned (.tuple #[.int .i64 (optN r), .bool r.isSome]) ∧ w' = w) := fun w h => NR.out (-1) r w h (Or.inr rfl) hr
          clear NR hd hr hq hg nr
          go_enter Tryz.func112, Tryz.ntmps112
          go_wp2_with fail
          refine (ID.out _).mono ?_
          rintro e w1 ⟨rfl, hw⟩; rw [hw]; clear hw w1
          go_wp2_with fail
          refine (N1.out _ HS.out).mono ?_
          rintro e w1 ⟨rfl, hw⟩; rw [hw]; clear hw w1
          go_wp2_with fail
          refine (SM.out _ HA.out).mono ?_
          rintro e w2 ⟨rfl, U2⟩
          go_wp2_with fail
          refine (N2.out _ (HS.out.up U2)).mono ?_
          rintro e w1 ⟨rfl, hw⟩; rw [hw]; clear hw w1
          go_wp2_with fail
          go_ret2
          exact ⟨rfl, U2⟩
        · rw [if_pos rfl] at hr
          subst hr
          clear NR hd hq hg nr
          go_enter Tryz.func112, Tryz.ntmps112
          go_wp2_with fail
          refine (ID.out _).mono ?_
          rintro e w1 ⟨rfl, hw⟩; rw [hw]; clear hw w1
          go_wp2_with fail
          refine (N1.out _ HS.out).mono ?_
          rintro e w1 ⟨rfl, hw⟩; rw [hw]; clear hw w1
          go_wp2_with fail
          refine (SM.out _ HA.out).mono ?_
          rintro e w2 ⟨rfl, U2⟩
          go_wp2_with fail
          go_ret2
          exact ⟨rfl, U2⟩
    rw [if_neg r3] at hr
    subst hr
    clear NR hd
    go_enter Tryz.func112, Tryz.ntmps112
    go_wp2_with fail
    refine (ID.out _).mono ?_
    rintro e w1 ⟨rfl, hw⟩; rw [hw]; clear hw w1
    go_wp2_with fail
    go_ret2
    exact ⟨rfl, Up.refl _⟩
  · have ID : Hid (∀ w, Calls Tryz.prog 120 #[.int .i64 day] w fun e w' => e = .returned (.bool false) ∧ w' = w) := fun w => isDay_at day false (decide_eq_false hd) w
    rw [if_pos hd] at hr
    subst hr
    clear h hA hd
    generalize xs.length = L at *
    go_enter Tryz.func112, Tryz.ntmps112
    go_wp2_with fail
    refine (ID.out _).mono ?_
    rintro e w1 ⟨rfl, hw⟩; rw [hw]; clear hw w1
    go_wp2_with fail
    go_ret2
    exact ⟨rfl, Up.refl _⟩
end Go.Proofs.YtgdmkcbbomfmdaaGreatDoor
