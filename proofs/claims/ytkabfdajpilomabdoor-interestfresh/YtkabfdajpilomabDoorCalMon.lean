/-
  Ours: the contract of calendar.AddMonths.
-/
import Derived.Test.YtkabfdajpilomabDoorCalNum
namespace Go.Proofs.YtkabfdajpilomabDoor
open Go.RowKit CalM

/-- The two draws' laws, for the walk. -/
theorem set_drewN (W : World) (n : Nat) (a : Addr) (v : Value) : (W.drewN n).setCell a v = (W.setCell a v).drewN n := rfl
theorem al_drewN (W : World) (n : Nat) (o : Obj) : (W.drewN n).alloc o = (W.alloc o).drewN n := rfl

/-- The day of the month that a step of months lands on. -/
def landI (q a : Int) : Int := min a (lenI (q / 12 + 1) (q % 12 + 1))

set_option maxHeartbeats 2000000 in
theorem addMonths_at (y m k day months a q n : Int) (h : Ok y m k) (hd : dA y m + k = day) (a1 : 1 ≤ a) (a2 : a ≤ 31) (hq : (y - 1) * 12 + m - 1 + months = q) (q1 : 0 ≤ q) (q2 : q ≤ 119987)
    (hn : dA (q / 12 + 1) (q % 12 + 1) + landI q a = n) (w : World) (hA : TabA w) (hL : TabL w) :
    Calls Tryd.prog 31 #[.int .i64 day, .int .i64 months, .int .i64 a] w fun e w' => e = .returned (.tuple #[.int .i64 n, .bool true]) ∧ ∃ o1 o2 o3 j, w' = (((w.alloc o1).alloc o2).alloc o3).drewN j := by
  have CA : Hid (∀ w : World, TabA w → Calls Tryd.prog 12 #[.int .i64 day] w fun e w' => e = .returned (.tuple #[.agg #[.int .i64 y, .int .i64 m, .int .i64 k], .bool true]) ∧ ∃ o, w' = w.alloc o) := fun w hA => civil_at y m k day h hd w hA
  obtain ⟨y1, y2, m1, m2, k1, k2⟩ := h
  have HA : Hid (TabA w) := hA
  have HL : Hid (TabL w) := hL
  have ML : Hid (∀ w : World, TabL w → Calls Tryd.prog 47 #[.int .i64 (q / 12 + 1), .int .i64 (q % 12 + 1)] w fun e w' => e = .returned (.int .i64 (lenI (q / 12 + 1) (q % 12 + 1))) ∧ w' = w) := fun w hL => monthLen_at _ _ _ (by omega) (by omega) (by omega) (by omega) rfl w hL
  have l1 := len_low (q / 12 + 1) (q % 12 + 1)
  have l2 := len_high (q / 12 + 1) (q % 12 + 1)
  have NU : Hid (∀ (x : Int) (w : World), x = landI q a → TabA w → TabL w → Calls Tryd.prog 46 #[.agg #[.int .i64 (q / 12 + 1), .int .i64 (q % 12 + 1), .int .i64 x]] w fun e w' => e = .returned (.tuple #[.int .i64 n, .bool true]) ∧ ∃ o n, w' = (w.alloc o).drewN n) := fun x w hx hA hL => by
    subst hx
    refine number_at _ _ _ n ⟨by omega, by omega, by omega, by omega, ?_, ?_⟩ hn w hA hL <;> unfold landI <;> omega
  have LD : landI q a = min a (lenI (q / 12 + 1) (q % 12 + 1)) := rfl
  clear hA hL hd hn k1 k2
  generalize lenI (q / 12 + 1) (q % 12 + 1) = L at *
  generalize landI q a = D at *
  have HD : Hid (D = min a L) := LD
  have t1 : ¬ months < -((y - 1) * 12 + m - 1) := by omega
  have t2 : ¬ 119987 - ((y - 1) * 12 + m - 1) < months := by omega
  clear LD
  subst hq
  go_enter Tryd.func31, Tryd.ntmps31
  go_wp2_with fail
  refine (CA.out _ (by repeat (first | exact HA.out | refine TabA.dr ?_ _ | refine TabA.al ?_ _))).mono ?_
  rintro e w1 ⟨rfl, o1, hw⟩; rw [hw]; clear hw w1
  go_wp2_with fail
  refine (ML.out _ (by repeat (first | exact HL.out | refine TabL.dr ?_ _ | refine TabL.al ?_ _))).mono ?_
  rintro e w1 ⟨rfl, hw⟩; rw [hw]; clear hw w1
  go_wp2_with fail
  all_goals
    refine (NU.out _ _ (by have := HD.out; omega) (by repeat (first | exact HA.out | refine TabA.dr ?_ _ | refine TabA.al ?_ _)) (by repeat (first | exact HL.out | refine TabL.dr ?_ _ | refine TabL.al ?_ _))).mono ?_
    rintro e w1 ⟨rfl, o2, j2, hw⟩; rw [hw]; clear hw w1
    go_wp2_with fail
    go_ret2
    exact ⟨rfl, _, _, _, _, rfl⟩

/-- Refused: no such day. -/
theorem addMonths_noday (day months a : Int) (h : ¬(1 ≤ day ∧ day ≤ 3652059)) (w : World) :
    Calls Tryd.prog 31 #[.int .i64 day, .int .i64 months, .int .i64 a] w fun e w' => e = .returned (.tuple #[.int .i64 0, .bool false]) ∧ ∃ o1 o2, w' = (w.alloc o1).alloc o2 := by
  have CN : Hid (∀ w : World, Calls Tryd.prog 12 #[.int .i64 day] w fun e w' => e = .returned (.tuple #[.agg #[.int .i64 0, .int .i64 0, .int .i64 0], .bool false]) ∧ ∃ o, w' = w.alloc o) := fun w => civil_no day h w
  clear h
  go_enter Tryd.func31, Tryd.ntmps31
  go_wp2_with fail
  refine (CN.out _).mono ?_
  rintro e w1 ⟨rfl, o1, hw⟩; rw [hw]; clear hw w1
  go_wp2_with fail
  go_ret2
  exact ⟨rfl, _, _, rfl⟩

/-- Refused: no such anchor. -/
theorem addMonths_noanchor (y m k day months a : Int) (h : Ok y m k) (hd : dA y m + k = day) (ha : ¬(1 ≤ a ∧ a ≤ 31)) (w : World) (hA : TabA w) :
    Calls Tryd.prog 31 #[.int .i64 day, .int .i64 months, .int .i64 a] w fun e w' => e = .returned (.tuple #[.int .i64 0, .bool false]) ∧ ∃ o1 o2, w' = (w.alloc o1).alloc o2 := by
  have CA : Hid (∀ w : World, TabA w → Calls Tryd.prog 12 #[.int .i64 day] w fun e w' => e = .returned (.tuple #[.agg #[.int .i64 y, .int .i64 m, .int .i64 k], .bool true]) ∧ ∃ o, w' = w.alloc o) := fun w hA => civil_at y m k day h hd w hA
  have HA : Hid (TabA w) := hA
  have t : (decide (a < 1) || decide (31 < a)) = true := by simp; omega
  clear h hd ha hA
  go_enter Tryd.func31, Tryd.ntmps31
  go_wp2_with fail
  refine (CA.out _ (by repeat (first | exact HA.out | refine TabA.dr ?_ _ | refine TabA.al ?_ _))).mono ?_
  rintro e w1 ⟨rfl, o1, hw⟩; rw [hw]; clear hw w1
  go_wp2_with fail
  all_goals
    go_ret2
    exact ⟨rfl, _, _, rfl⟩

set_option maxHeartbeats 1000000 in
/-- Refused: no such month. -/
theorem addMonths_nomonth (y m k day months a : Int) (h : Ok y m k) (hd : dA y m + k = day) (a1 : 1 ≤ a) (a2 : a ≤ 31) (hq : ¬(0 ≤ (y - 1) * 12 + m - 1 + months ∧ (y - 1) * 12 + m - 1 + months ≤ 119987)) (w : World) (hA : TabA w) :
    Calls Tryd.prog 31 #[.int .i64 day, .int .i64 months, .int .i64 a] w fun e w' => e = .returned (.tuple #[.int .i64 0, .bool false]) ∧ ∃ o1 o2, w' = (w.alloc o1).alloc o2 := by
  have CA : Hid (∀ w : World, TabA w → Calls Tryd.prog 12 #[.int .i64 day] w fun e w' => e = .returned (.tuple #[.agg #[.int .i64 y, .int .i64 m, .int .i64 k], .bool true]) ∧ ∃ o, w' = w.alloc o) := fun w hA => civil_at y m k day h hd w hA
  have HA : Hid (TabA w) := hA
  obtain ⟨y1, y2, m1, m2, k1, k2⟩ := h
  have HQ : Hid (¬(0 ≤ (y - 1) * 12 + m - 1 + months ∧ (y - 1) * 12 + m - 1 + months ≤ 119987)) := hq
  clear hd hA k2 hq
  rcases Int.lt_or_le months (-((y - 1) * 12 + m - 1)) with t | t
  · go_enter Tryd.func31, Tryd.ntmps31
    go_wp2_with fail
    refine (CA.out _ (by repeat (first | exact HA.out | refine TabA.dr ?_ _ | refine TabA.al ?_ _))).mono ?_
    rintro e w1 ⟨rfl, o1, hw⟩; rw [hw]; clear hw w1
    go_wp2_with fail
    go_ret2
    exact ⟨rfl, _, _, rfl⟩
  · have t2 : 119987 - ((y - 1) * 12 + m - 1) < months := by have := HQ.out; omega
    go_enter Tryd.func31, Tryd.ntmps31
    go_wp2_with fail
    refine (CA.out _ (by repeat (first | exact HA.out | refine TabA.dr ?_ _ | refine TabA.al ?_ _))).mono ?_
    rintro e w1 ⟨rfl, o1, hw⟩; rw [hw]; clear hw w1
    go_wp2_with fail
    go_ret2
    exact ⟨rfl, _, _, rfl⟩

/-- The answer to a step of months that lands on the month number q, at the anchor a. -/
def stepN (q a : Int) : Int := if 0 ≤ q ∧ q ≤ 119987 then dA (q / 12 + 1) (q % 12 + 1) + landI q a else 0
def stepB (q : Int) : Bool := decide (0 ≤ q ∧ q ≤ 119987)

theorem addMonths_up (y m k day months a q : Int) (h : Ok y m k) (hd : dA y m + k = day) (a1 : 1 ≤ a) (a2 : a ≤ 31) (hq : (y - 1) * 12 + m - 1 + months = q) (w : World) (hA : TabA w) (hL : TabL w) :
    Calls Tryd.prog 31 #[.int .i64 day, .int .i64 months, .int .i64 a] w fun e w' => e = .returned (.tuple #[.int .i64 (stepN q a), .bool (stepB q)]) ∧ Up w w' := by
  by_cases g : 0 ≤ q ∧ q ≤ 119987
  · have e1 : stepB q = true := decide_eq_true g
    have e2 : stepN q a = dA (q / 12 + 1) (q % 12 + 1) + landI q a := by unfold stepN; rw [if_pos g]
    rw [e1, e2]
    exact (addMonths_at y m k day months a q _ h hd a1 a2 hq g.1 g.2 rfl w hA hL).mono fun e w' ⟨he, o1, o2, o3, j, hw⟩ => ⟨he, by rw [hw]; exact up_drewN (Up.alloc (Up.alloc (Up.alloc (Up.refl w) _) _) _) _⟩
  · have e1 : stepB q = false := decide_eq_false g
    have e2 : stepN q a = 0 := by unfold stepN; rw [if_neg g]
    rw [e1, e2]
    exact (addMonths_nomonth y m k day months a h hd a1 a2 (by rw [hq]; exact g) w hA).mono fun e w' ⟨he, o1, o2, hw⟩ => ⟨he, by rw [hw]; exact (Up.alloc (Up.alloc (Up.refl w) _) _)⟩
end Go.Proofs.YtkabfdajpilomabDoor
