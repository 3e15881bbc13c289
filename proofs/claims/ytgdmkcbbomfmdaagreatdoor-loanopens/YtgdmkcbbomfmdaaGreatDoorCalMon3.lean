/-
  Ours: the contract of the document's own AddMonths.
-/
import Derived.Test.YtgdmkcbbomfmdaaGreatDoorCalNum
import Derived.Test.YtgdmkcbbomfmdaaGreatDoorCalHol
namespace Go.Proofs.YtgdmkcbbomfmdaaGreatDoor
open Go.RowKit CalM

/-- The two draws' laws, for the walk. -/
theorem set_drewN (W : World) (n : Nat) (a : Addr) (v : Value) : (W.drewN n).setCell a v = (W.setCell a v).drewN n := rfl
theorem al_drewN (W : World) (n : Nat) (o : Obj) : (W.drewN n).alloc o = (W.alloc o).drewN n := rfl

/-- The day of the month that a step of months lands on. -/
def landI (q a : Int) : Int := min a (lenI (q / 12 + 1) (q % 12 + 1))

set_option maxHeartbeats 2000000 in
theorem addMonths_at (y m k day months a q n : Int) (h : Ok y m k) (hd : dA y m + k = day) (a1 : 1 ≤ a) (a2 : a ≤ 31) (hq : (y - 1) * 12 + m - 1 + months = q) (q1 : 0 ≤ q) (q2 : q ≤ 119987)
    (hn : dA (q / 12 + 1) (q % 12 + 1) + landI q a = n) (w : World) (hA : TabA w) (hL : TabL w) :
    Calls Tryz.prog 111 #[.int .i64 day, .int .i64 months, .int .i64 a] w fun e w' => e = .returned (.tuple #[.int .i64 n, .bool true]) ∧ ∃ o1 o2 o3 j, w' = (((w.alloc o1).alloc o2).alloc o3).drewN j := by
  have CA : Hid (∀ w : World, TabA w → Calls Tryz.prog 103 #[.int .i64 day] w fun e w' => e = .returned (.tuple #[.agg #[.int .i64 y, .int .i64 m, .int .i64 k], .bool true]) ∧ ∃ o, w' = w.alloc o) := fun w hA => civil_at y m k day h hd w hA
  obtain ⟨y1, y2, m1, m2, k1, k2⟩ := h
  have HA : Hid (TabA w) := hA
  have HL : Hid (TabL w) := hL
  have ML : Hid (∀ w : World, TabL w → Calls Tryz.prog 130 #[.int .i64 (q / 12 + 1), .int .i64 (q % 12 + 1)] w fun e w' => e = .returned (.int .i64 (lenI (q / 12 + 1) (q % 12 + 1))) ∧ w' = w) := fun w hL => monthLen_at _ _ _ (by omega) (by omega) (by omega) (by omega) rfl w hL
  have l1 := len_low (q / 12 + 1) (q % 12 + 1)
  have l2 := len_high (q / 12 + 1) (q % 12 + 1)
  have NU : Hid (∀ (x : Int) (w : World), x = landI q a → TabA w → TabL w → Calls Tryz.prog 129 #[.agg #[.int .i64 (q / 12 + 1), .int .i64 (q % 12 + 1), .int .i64 x]] w fun e w' => e = .returned (.tuple #[.int .i64 n, .bool true]) ∧ ∃ o n, w' = (w.alloc o).drewN n) := fun x w hx hA hL => by
    subst hx
    refine number_at _ _ _ n ⟨by omega, by omega, by omega, by omega, ?_, ?_⟩ hn w hA hL <;> unfold landI <;> omega
  have LD : landI q a = min a (lenI (q / 12 + 1) (q % 12 + 1)) := rfl
  clear hA hL hd hn k1 k2
  generalize lenI (q / 12 + 1) (q % 12 + 1) = L at *
  generalize landI q a = D at *
  have HD : Hid (D = min a L) := LD
  have t1 : ¬ months < -((y - 1) * 12 + m - 1) := by omega
  have t2 : ¬ 119987 - ((y - 1) * 12 + m - 1) < months := by omega
  clear LD
  subst hq
  go_enter Tryz.func111, Tryz.ntmps111
  go_wp2_with fail
  refine (CA.out _ (by repeat (first | exact HA.out | refine TabA.dr ?_ _ | refine TabA.al ?_ _))).mono ?_
  rintro e w1 ⟨rfl, o1, hw⟩; rw [hw]; clear hw w1
  go_wp2_with fail
  refine (ML.out _ (by repeat (first | exact HL.out | refine TabL.dr ?_ _ | refine TabL.al ?_ _))).mono ?_
  rintro e w1 ⟨rfl, hw⟩; rw [hw]; clear hw w1
  go_wp2_with fail
  all_goals
    refine (NU.out _ _ (by have := HD.out; omega) (by repeat (first | exact HA.out | refine TabA.dr ?_ _ | refine TabA.al ?_ _)) (by repeat (first | exact HL.out | refine TabL.dr ?_ _ | refine TabL.al ?_ _))).mono ?_
    rintro e w1 ⟨rfl, o2, j2, hw⟩; rw [hw]; clear hw w1
    go_wp2_with fail
    go_ret2
    exact ⟨rfl, _, _, _, _, rfl⟩

/-- Refused: no such day. -/
theorem addMonths_noday (day months a : Int) (h : ¬(1 ≤ day ∧ day ≤ 3652059)) (w : World) :
    Calls Tryz.prog 111 #[.int .i64 day, .int .i64 months, .int .i64 a] w fun e w' => e = .returned (.tuple #[.int .i64 0, .bool false]) ∧ ∃ o1 o2, w' = (w.alloc o1).alloc o2 := by
  have CN : Hid (∀ w : World, Calls Tryz.prog 103 #[.int .i64 day] w fun e w' => e = .returned (.tuple #[.agg #[.int .i64 0, .int .i64 0, .int .i64 0], .bool false]) ∧ ∃ o, w' = w.alloc o) := fun w => civil_no day h w
  clear h
  go_enter Tryz.func111, Tryz.ntmps111
  go_wp2_with fail
  refine (CN.out _).mono ?_
  rintro e w1 ⟨rfl, o1, hw⟩; rw [hw]; clear hw w1
  go_wp2_with fail
  go_ret2
  exact ⟨rfl, _, _, rfl⟩

/-- Refused: no such anchor. -/
theorem addMonths_noanchor (y m k day months a : Int) (h : Ok y m k) (hd : dA y m + k = day) (ha : ¬(1 ≤ a ∧ a ≤ 31)) (w : World) (hA : TabA w) :
    Calls Tryz.prog 111 #[.int .i64 day, .int .i64 months, .int .i64 a] w fun e w' => e = .returned (.tuple #[.int .i64 0, .bool false]) ∧ ∃ o1 o2, w' = (w.alloc o1).alloc o2 := by
  have CA : Hid (∀ w : World, TabA w → Calls Tryz.prog 103 #[.int .i64 day] w fun e w' => e = .returned (.tuple #[.agg #[.int .i64 y, .int .i64 m, .int .i64 k], .bool true]) ∧ ∃ o, w' = w.alloc o) := fun w hA => civil_at y m k day h hd w hA
  have HA : Hid (TabA w) := hA
  have t : (decide (a < 1) || decide (31 < a)) = true := by simp; omega
  clear h hd ha hA
  go_enter Tryz.func111, Tryz.ntmps111
  go_wp2_with fail
  refine (CA.out _ (by repeat (first | exact HA.out | refine TabA.dr ?_ _ | refine TabA.al ?_ _))).mono ?_
  rintro e w1 ⟨rfl, o1, hw⟩; rw [hw]; clear hw w1
  go_wp2_with fail
  all_goals
    go_ret2
    exact ⟨rfl, _, _, rfl⟩

set_option maxHeartbeats 1000000 in
/-- Refused: no such month. -/
theorem addMonths_nomonth (y m k day months a : Int) (h : Ok y m k) (hd : dA y m + k = day) (a1 : 1 ≤ a) (a2 : a ≤ 31) (hq : ¬(0 ≤ (y - 1) * 12 + m - 1 + months ∧ (y - 1) * 12 + m - 1 + months ≤ 119987)) (w : World) (hA : TabA w) :
    Calls Tryz.prog 111 #[.int .i64 day, .int .i64 months, .int .i64 a] w fun e w' => e = .returned (.tuple #[.int .i64 0, .bool false]) ∧ ∃ o1 o2, w' = (w.alloc o1).alloc o2 := by
  have CA : Hid (∀ w : World, TabA w → Calls Tryz.prog 103 #[.int .i64 day] w fun e w' => e = .returned (.tuple #[.agg #[.int .i64 y, .int .i64 m, .int .i64 k], .bool true]) ∧ ∃ o, w' = w.alloc o) := fun w hA => civil_at y m k day h hd w hA
  have HA : Hid (TabA w) := hA
  obtain ⟨y1, y2, m1, m2, k1, k2⟩ := h
  have HQ : Hid (¬(0 ≤ (y - 1) * 12 + m - 1 + months ∧ (y - 1) * 12 + m - 1 + months ≤ 119987)) := hq
  clear hd hA k2 hq
  rcases Int.lt_or_le months (-((y - 1) * 12 + m - 1)) with t | t
  · go_enter Tryz.func111, Tryz.ntmps111
    go_wp2_with fail
    refine (CA.out _ (by repeat (first | exact HA.out | refine TabA.dr ?_ _ | refine TabA.al ?_ _))).mono ?_
    rintro e w1 ⟨rfl, o1, hw⟩; rw [hw]; clear hw w1
    go_wp2_with fail
    go_ret2
    exact ⟨rfl, _, _, rfl⟩
  · have t2 : 119987 - ((y - 1) * 12 + m - 1) < months := by have := HQ.out; omega
    go_enter Tryz.func111, Tryz.ntmps111
    go_wp2_with fail
    refine (CA.out _ (by repeat (first | exact HA.out | refine TabA.dr ?_ _ | refine TabA.al ?_ _))).mono ?_
    rintro e w1 ⟨rfl, o1, hw⟩; rw [hw]; clear hw w1
    go_wp2_with fail
    go_ret2
    exact ⟨rfl, _, _, rfl⟩

/-- The answer to a step of months that lands on the month number q, at the anchor a. -/
def stepN (q a : Int) : Int := if 0 ≤ q ∧ q ≤ 119987 then dA (q / 12 + 1) (q % 12 + 1) + landI q a else 0
def stepB (q : Int) : Bool := decide (0 ≤ q ∧ q ≤ 119987)

theorem addMonths_up (y m k day months a q : Int) (h : Ok y m k) (hd : dA y m + k = day) (a1 : 1 ≤ a) (a2 : a ≤ 31) (hq : (y - 1) * 12 + m - 1 + months = q) (w : World) (hA : TabA w) (hL : TabL w) :
    Calls Tryz.prog 111 #[.int .i64 day, .int .i64 months, .int .i64 a] w fun e w' => e = .returned (.tuple #[.int .i64 (stepN q a), .bool (stepB q)]) ∧ Up w w' := by
  by_cases g : 0 ≤ q ∧ q ≤ 119987
  · have e1 : stepB q = true := decide_eq_true g
    have e2 : stepN q a = dA (q / 12 + 1) (q % 12 + 1) + landI q a := by unfold stepN; rw [if_pos g]
    rw [e1, e2]
    exact (addMonths_at y m k day months a q _ h hd a1 a2 hq g.1 g.2 rfl w hA hL).mono fun e w' ⟨he, o1, o2, o3, j, hw⟩ => ⟨he, by rw [hw]; exact up_drewN (Up.alloc (Up.alloc (Up.alloc (Up.refl w) _) _) _) _⟩
  · have e1 : stepB q = false := decide_eq_false g
    have e2 : stepN q a = 0 := by unfold stepN; rw [if_neg g]
    rw [e1, e2]
    exact (addMonths_nomonth y m k day months a h hd a1 a2 (by rw [hq]; exact g) w hA).mono fun e w' ⟨he, o1, o2, hw⟩ => ⟨he, by rw [hw]; exact (Up.alloc (Up.alloc (Up.refl w) _) _)⟩
end Go.Proofs.YtgdmkcbbomfmdaaGreatDoor

namespace Go.Proofs.YtgdmkcbbomfmdaaGreatDoor
open Go.RowKit CalM

noncomputable def dateOf (d : Int) : Int × Int × Int := if h : 1 ≤ d ∧ d ≤ 3652059 then
  (Classical.choose (civil_exists d h.1 h.2), Classical.choose (Classical.choose_spec (civil_exists d h.1 h.2)), Classical.choose (Classical.choose_spec (Classical.choose_spec (civil_exists d h.1 h.2)))) else (0, 0, 0)
noncomputable def dY (d : Int) : Int := (dateOf d).1
noncomputable def dM (d : Int) : Int := (dateOf d).2.1
noncomputable def dK (d : Int) : Int := (dateOf d).2.2

theorem date_spec (d : Int) (h1 : 1 ≤ d) (h2 : d ≤ 3652059) : Ok (dY d) (dM d) (dK d) ∧ dA (dY d) (dM d) + dK d = d := by
  unfold dY dM dK dateOf
  rw [dif_pos ⟨h1, h2⟩]
  exact Classical.choose_spec (Classical.choose_spec (Classical.choose_spec (civil_exists d h1 h2)))
theorem date_is {y m k d : Int} (h : Ok y m k) (hd : dA y m + k = d) : dY d = y ∧ dM d = m ∧ dK d = k := by
  have r := day_range h
  rw [hd] at r
  obtain ⟨a, b⟩ := date_spec d r.1 r.2
  exact date_unique a h (b.trans hd.symm)

end Go.Proofs.YtgdmkcbbomfmdaaGreatDoor

namespace Go.Proofs.YtgdmkcbbomfmdaaGreatDoor
open Go.RowKit CalM

theorem refAdd_out (day months a : Int) (h : ¬((1 ≤ day ∧ day ≤ 3652059) ∧ 1 ≤ a ∧ a ≤ 31 ∧ -119987 ≤ months ∧ months ≤ 119987)) (w : World) :
    Calls Tryz.prog 53 #[.int .i64 day, .int .i64 months, .int .i64 a] w fun e w' => e = .returned (.tuple #[.int .i64 0, .bool false]) ∧ Up w w' := by
  obtain ⟨b, hb⟩ : ∃ b, decide (1 ≤ day ∧ day ≤ 3652059) = b := ⟨_, rfl⟩
  have ID : Hid (∀ w, Calls Tryz.prog 92 #[.int .i64 day] w fun e w' => e = .returned (.bool b) ∧ w' = w) := fun w => refIsDay_at day b hb w
  cases b
  · clear h hb
    go_enter Tryz.func53, Tryz.ntmps53
    go_wp2_with fail
    refine (ID.out _).mono ?_
    rintro e w1 ⟨rfl, hw⟩; rw [hw]; clear hw w1
    go_wp2_with fail
    go_ret2
    exact ⟨rfl, Up.refl _⟩
  · have hd := of_decide_eq_true hb
    have HO : Hid (¬(1 ≤ a ∧ a ≤ 31 ∧ -119987 ≤ months ∧ months ≤ 119987)) := fun g => h ⟨hd, g⟩
    clear h hb
    go_enter Tryz.func53, Tryz.ntmps53
    go_wp2_with fail
    refine (ID.out _).mono ?_
    rintro e w1 ⟨rfl, hw⟩; rw [hw]; clear hw w1
    go_wp2_with fail
    all_goals first
      | (exfalso
         exact HO.out (by omega))
      | (go_ret2
         exact ⟨rfl, Up.refl _⟩)

set_option maxRecDepth 100000 in
set_option maxHeartbeats 2000000 in
theorem refAdd_in (y m k day months a q : Int) (h : Ok y m k) (hd : dA y m + k = day) (a1 : 1 ≤ a) (a2 : a ≤ 31) (x1 : -119987 ≤ months) (x2 : months ≤ 119987) (hq : (y - 1) * 12 + m - 1 + months = q) (w : World) :
    Calls Tryz.prog 53 #[.int .i64 day, .int .i64 months, .int .i64 a] w fun e w' => e = .returned (.tuple #[.int .i64 (stepN q a), .bool (stepB q)]) ∧ Up w w' := by
  have hr := day_range h
  rw [hd] at hr
  have ID : Hid (∀ w, Calls Tryz.prog 92 #[.int .i64 day] w fun e w' => e = .returned (.bool true) ∧ w' = w) := fun w => refIsDay_at day true (decide_eq_true hr) w
  have CA : Hid (∀ w : World, Calls Tryz.prog 52 #[.int .i64 day] w fun e w' => e = .returned (.tuple #[.agg #[.int .i64 y, .int .i64 m, .int .i64 k], .bool true]) ∧ ∃ o, w' = w.alloc o) := fun w => refCivil_at y m k day h hd w
  obtain ⟨y1, y2, m1, m2, k1, k2⟩ := h
  have eq : 12 * (y - 1) + m - 1 + months = q := by omega
  by_cases g : 0 ≤ q ∧ q ≤ 119987
  · have e1 : stepB q = true := decide_eq_true g
    have e2 : stepN q a = dA (q / 12 + 1) (q % 12 + 1) + landI q a := by unfold stepN; rw [if_pos g]
    obtain ⟨n, hn⟩ : ∃ n, stepN q a = n := ⟨_, rfl⟩
    rw [e1, hn]
    rw [hn] at e2
    have l1 := len_low (q / 12 + 1) (q % 12 + 1)
    have l2 := len_high (q / 12 + 1) (q % 12 + 1)
    have LO : Hid (∀ w : World, Calls Tryz.prog 94 #[.int .i64 (q / 12 + 1), .int .i64 (q % 12 + 1)] w fun e w' => e = .returned (.int .i64 (lenI (q / 12 + 1) (q % 12 + 1))) ∧ w' = w) := fun w => lenOf_at _ _ _ (by omega) (by omega) (by omega) rfl w
    have NU : Hid (∀ (x : Int) (w : World), x = landI q a → Calls Tryz.prog 95 #[.agg #[.int .i64 (q / 12 + 1), .int .i64 (q % 12 + 1), .int .i64 x]] w fun e w' => e = .returned (.tuple #[.int .i64 n, .bool true]) ∧ ∃ o n, w' = (w.alloc o).drewN n) := fun x w hx => by
      subst hx
      refine refNumber_at _ _ _ n ⟨by omega, by omega, by omega, by omega, ?_, ?_⟩ e2.symm w <;> unfold landI <;> omega
    have LD : Hid (landI q a = min a (lenI (q / 12 + 1) (q % 12 + 1))) := rfl
    clear hd e1 e2 hn k1 k2 hr hq
    obtain ⟨g1, g2⟩ := g
    generalize lenI (q / 12 + 1) (q % 12 + 1) = L at *
    generalize landI q a = D at *
    have AD := al_drewN
    have SD := set_drewN
    go_enter Tryz.func53, Tryz.ntmps53
    go_wp2_with fail
    refine (ID.out _).mono ?_
    rintro e w1 ⟨rfl, hw⟩; rw [hw]; clear hw w1
    go_wp2_with fail
    refine (CA.out _).mono ?_
    rintro e w1 ⟨rfl, o1, hw⟩; rw [hw]; clear hw w1
    go_wp2_with fail
    refine (LO.out _).mono ?_
    rintro e w1 ⟨rfl, hw⟩; rw [hw]; clear hw w1
    go_wp2_with fail
    all_goals
      refine (NU.out _ _ (by have := LD.out; omega)).mono ?_
      rintro e w1 ⟨rfl, o2, j2, hw⟩; rw [hw]; clear hw w1
      go_wp2_with fail
      go_ret2
      exact ⟨rfl, by repeat (first | exact Up.refl _ | refine up_drewN ?_ _ | refine Up.alloc ?_ _)⟩
  · have e1 : stepB q = false := decide_eq_false g
    have e2 : stepN q a = 0 := by unfold stepN; rw [if_neg g]
    rw [e1, e2]
    clear e1 e2 hd k1 k2 hr hq
    have HG : Hid (¬(0 ≤ q ∧ q ≤ 119987)) := g
    clear g
    go_enter Tryz.func53, Tryz.ntmps53
    go_wp2_with fail
    refine (ID.out _).mono ?_
    rintro e w1 ⟨rfl, hw⟩; rw [hw]; clear hw w1
    go_wp2_with fail
    refine (CA.out _).mono ?_
    rintro e w1 ⟨rfl, o1, hw⟩; rw [hw]; clear hw w1
    go_wp2_with fail
    all_goals first
      | (exfalso
         exact HG.out (by omega))
      | (go_ret2
         exact ⟨rfl, by repeat (first | exact Up.refl _ | refine up_drewN ?_ _ | refine Up.alloc ?_ _)⟩)

theorem add_both (day months a : Int) : ∃ (n : Int) (b : Bool), Hid (∀ w, TabA w → TabL w → Calls Tryz.prog 111 #[.int .i64 day, .int .i64 months, .int .i64 a] w fun e w' => e = .returned (.tuple #[.int .i64 n, .bool b]) ∧ Up w w') ∧ Hid (∀ w, Calls Tryz.prog 53 #[.int .i64 day, .int .i64 months, .int .i64 a] w fun e w' => e = .returned (.tuple #[.int .i64 n, .bool b]) ∧ Up w w') := by
  by_cases h : 1 ≤ day ∧ day ≤ 3652059
  · obtain ⟨y, m, k, hk, hd⟩ := civil_exists day h.1 h.2
    by_cases ha : 1 ≤ a ∧ a ≤ 31
    · by_cases hm : -119987 ≤ months ∧ months ≤ 119987
      · exact ⟨_, _, fun w hA hL => addMonths_up y m k day months a _ hk hd ha.1 ha.2 rfl w hA hL, fun w => refAdd_in y m k day months a _ hk hd ha.1 ha.2 hm.1 hm.2 rfl w⟩
      · refine ⟨0, false, fun w hA hL => ?_, fun w => refAdd_out day months a (fun g => hm g.2.2.2) w⟩
        refine (addMonths_nomonth y m k day months a hk hd ha.1 ha.2 ?_ w hA).mono fun e w' ⟨he, o1, o2, hw⟩ => ⟨he, by rw [hw]; exact (Up.alloc (Up.alloc (Up.refl w) _) _)⟩
        obtain ⟨y1, y2, m1, m2, _, _⟩ := hk
        omega
    · exact ⟨0, false, fun w hA hL => (addMonths_noanchor y m k day months a hk hd ha w hA).mono fun e w' ⟨he, o1, o2, hw⟩ => ⟨he, by rw [hw]; exact (Up.alloc (Up.alloc (Up.refl w) _) _)⟩, fun w => refAdd_out day months a (fun g => ha ⟨g.2.1, g.2.2.1⟩) w⟩
  · exact ⟨0, false, fun w hA hL => (addMonths_noday day months a h w).mono fun e w' ⟨he, o1, o2, hw⟩ => ⟨he, by rw [hw]; exact (Up.alloc (Up.alloc (Up.refl w) _) _)⟩, fun w => refAdd_out day months a (fun g => h g.1) w⟩

end Go.Proofs.YtgdmkcbbomfmdaaGreatDoor
