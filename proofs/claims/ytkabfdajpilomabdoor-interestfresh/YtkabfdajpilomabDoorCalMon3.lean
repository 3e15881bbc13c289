/-
  Ours: the contract of the document's own AddMonths.
-/
import Derived.Test.YtkabfdajpilomabDoorCalMon
import Derived.Test.YtkabfdajpilomabDoorCalRef2
namespace Go.Proofs.YtkabfdajpilomabDoor
open Go.RowKit CalM

theorem refAdd_out (day months a : Int) (h : ¬((1 ≤ day ∧ day ≤ 3652059) ∧ 1 ≤ a ∧ a ≤ 31 ∧ -119987 ≤ months ∧ months ≤ 119987)) (w : World) :
    Calls Tryd.prog 53 #[.int .i64 day, .int .i64 months, .int .i64 a] w fun e w' => e = .returned (.tuple #[.int .i64 0, .bool false]) ∧ Up w w' := by
  obtain ⟨b, hb⟩ : ∃ b, decide (1 ≤ day ∧ day ≤ 3652059) = b := ⟨_, rfl⟩
  have ID : Hid (∀ w, Calls Tryd.prog 61 #[.int .i64 day] w fun e w' => e = .returned (.bool b) ∧ w' = w) := fun w => refIsDay_at day b hb w
  cases b
  · clear h hb
    go_enter Tryd.func53, Tryd.ntmps53
    go_wp2_with fail
    refine (ID.out _).mono ?_
    rintro e w1 ⟨rfl, hw⟩; rw [hw]; clear hw w1
    go_wp2_with fail
    go_ret2
    exact ⟨rfl, Up.refl _⟩
  · have hd := of_decide_eq_true hb
    have HO : Hid (¬(1 ≤ a ∧ a ≤ 31 ∧ -119987 ≤ months ∧ months ≤ 119987)) := fun g => h ⟨hd, g⟩
    clear h hb
    go_enter Tryd.func53, Tryd.ntmps53
    go_wp2_with fail
    refine (ID.out _).mono ?_
    rintro e w1 ⟨rfl, hw⟩; rw [hw]; clear hw w1
    go_wp2_with fail
    all_goals first
      | (exfalso
         exact HO.out (by omega))
      | (go_ret2
         exact ⟨rfl, Up.refl _⟩)

set_option maxRecDepth 100000 in
set_option maxHeartbeats 2000000 in
theorem refAdd_in (y m k day months a q : Int) (h : Ok y m k) (hd : dA y m + k = day) (a1 : 1 ≤ a) (a2 : a ≤ 31) (x1 : -119987 ≤ months) (x2 : months ≤ 119987) (hq : (y - 1) * 12 + m - 1 + months = q) (w : World) :
    Calls Tryd.prog 53 #[.int .i64 day, .int .i64 months, .int .i64 a] w fun e w' => e = .returned (.tuple #[.int .i64 (stepN q a), .bool (stepB q)]) ∧ Up w w' := by
  have hr := day_range h
  rw [hd] at hr
  have ID : Hid (∀ w, Calls Tryd.prog 61 #[.int .i64 day] w fun e w' => e = .returned (.bool true) ∧ w' = w) := fun w => refIsDay_at day true (decide_eq_true hr) w
  have CA : Hid (∀ w : World, Calls Tryd.prog 52 #[.int .i64 day] w fun e w' => e = .returned (.tuple #[.agg #[.int .i64 y, .int .i64 m, .int .i64 k], .bool true]) ∧ ∃ o, w' = w.alloc o) := fun w => refCivil_at y m k day h hd w
  obtain ⟨y1, y2, m1, m2, k1, k2⟩ := h
  have eq : 12 * (y - 1) + m - 1 + months = q := by omega
  by_cases g : 0 ≤ q ∧ q ≤ 119987
  · have e1 : stepB q = true := decide_eq_true g
    have e2 : stepN q a = dA (q / 12 + 1) (q % 12 + 1) + landI q a := by unfold stepN; rw [if_pos g]
    obtain ⟨n, hn⟩ : ∃ n, stepN q a = n := ⟨_, rfl⟩
    rw [e1, hn]
    rw [hn] at e2
    have l1 := len_low (q / 12 + 1) (q % 12 + 1)
    have l2 := len_high (q / 12 + 1) (q % 12 + 1)
    have LO : Hid (∀ w : World, Calls Tryd.prog 63 #[.int .i64 (q / 12 + 1), .int .i64 (q % 12 + 1)] w fun e w' => e = .returned (.int .i64 (lenI (q / 12 + 1) (q % 12 + 1))) ∧ w' = w) := fun w => lenOf_at _ _ _ (by omega) (by omega) (by omega) rfl w
    have NU : Hid (∀ (x : Int) (w : World), x = landI q a → Calls Tryd.prog 64 #[.agg #[.int .i64 (q / 12 + 1), .int .i64 (q % 12 + 1), .int .i64 x]] w fun e w' => e = .returned (.tuple #[.int .i64 n, .bool true]) ∧ ∃ o n, w' = (w.alloc o).drewN n) := fun x w hx => by
      subst hx
      refine refNumber_at _ _ _ n ⟨by omega, by omega, by omega, by omega, ?_, ?_⟩ e2.symm w <;> unfold landI <;> omega
    have LD : Hid (landI q a = min a (lenI (q / 12 + 1) (q % 12 + 1))) := rfl
    clear hd e1 e2 hn k1 k2 hr hq
    obtain ⟨g1, g2⟩ := g
    generalize lenI (q / 12 + 1) (q % 12 + 1) = L at *
    generalize landI q a = D at *
    have AD := al_drewN
    have SD := set_drewN
    go_enter Tryd.func53, Tryd.ntmps53
    go_wp2_with fail
    refine (ID.out _).mono ?_
    rintro e w1 ⟨rfl, hw⟩; rw [hw]; clear hw w1
    go_wp2_with fail
    refine (CA.out _).mono ?_
    rintro e w1 ⟨rfl, o1, hw⟩; rw [hw]; clear hw w1
    go_wp2_with fail
    refine (LO.out _).mono ?_
    rintro e w1 ⟨rfl, hw⟩; rw [hw]; clear hw w1
    go_wp2_with fail
    all_goals
      refine (NU.out _ _ (by have := LD.out; omega)).mono ?_
      rintro e w1 ⟨rfl, o2, j2, hw⟩; rw [hw]; clear hw w1
      go_wp2_with fail
      go_ret2
      exact ⟨rfl, by repeat (first | exact Up.refl _ | refine up_drewN ?_ _ | refine Up.alloc ?_ _)⟩
  · have e1 : stepB q = false := decide_eq_false g
    have e2 : stepN q a = 0 := by unfold stepN; rw [if_neg g]
    rw [e1, e2]
    clear e1 e2 hd k1 k2 hr hq
    have HG : Hid (¬(0 ≤ q ∧ q ≤ 119987)) := g
    clear g
    go_enter Tryd.func53, Tryd.ntmps53
    go_wp2_with fail
    refine (ID.out _).mono ?_
    rintro e w1 ⟨rfl, hw⟩; rw [hw]; clear hw w1
    go_wp2_with fail
    refine (CA.out _).mono ?_
    rintro e w1 ⟨rfl, o1, hw⟩; rw [hw]; clear hw w1
    go_wp2_with fail
    all_goals first
      | (exfalso
         exact HG.out (by omega))
      | (go_ret2
         exact ⟨rfl, by repeat (first | exact Up.refl _ | refine up_drewN ?_ _ | refine Up.alloc ?_ _)⟩)

theorem add_both (day months a : Int) : ∃ (n : Int) (b : Bool), Hid (∀ w, TabA w → TabL w → Calls Tryd.prog 31 #[.int .i64 day, .int .i64 months, .int .i64 a] w fun e w' => e = .returned (.tuple #[.int .i64 n, .bool b]) ∧ Up w w') ∧ Hid (∀ w, Calls Tryd.prog 53 #[.int .i64 day, .int .i64 months, .int .i64 a] w fun e w' => e = .returned (.tuple #[.int .i64 n, .bool b]) ∧ Up w w') := by
  by_cases h : 1 ≤ day ∧ day ≤ 3652059
  · obtain ⟨y, m, k, hk, hd⟩ := civil_exists day h.1 h.2
    by_cases ha : 1 ≤ a ∧ a ≤ 31
    · by_cases hm : -119987 ≤ months ∧ months ≤ 119987
      · exact ⟨_, _, fun w hA hL => addMonths_up y m k day months a _ hk hd ha.1 ha.2 rfl w hA hL, fun w => refAdd_in y m k day months a _ hk hd ha.1 ha.2 hm.1 hm.2 rfl w⟩
      · refine ⟨0, false, fun w hA hL => ?_, fun w => refAdd_out day months a (fun g => hm g.2.2.2) w⟩
        refine (addMonths_nomonth y m k day months a hk hd ha.1 ha.2 ?_ w hA).mono fun e w' ⟨he, o1, o2, hw⟩ => ⟨he, by rw [hw]; exact (Up.alloc (Up.alloc (Up.refl w) _) _)⟩
        obtain ⟨y1, y2, m1, m2, _, _⟩ := hk
        omega
    · exact ⟨0, false, fun w hA hL => (addMonths_noanchor y m k day months a hk hd ha w hA).mono fun e w' ⟨he, o1, o2, hw⟩ => ⟨he, by rw [hw]; exact (Up.alloc (Up.alloc (Up.refl w) _) _)⟩, fun w => refAdd_out day months a (fun g => ha ⟨g.2.1, g.2.2.1⟩) w⟩
  · exact ⟨0, false, fun w hA hL => (addMonths_noday day months a h w).mono fun e w' ⟨he, o1, o2, hw⟩ => ⟨he, by rw [hw]; exact (Up.alloc (Up.alloc (Up.refl w) _) _)⟩, fun w => refAdd_out day months a (fun g => h g.1) w⟩

end Go.Proofs.YtkabfdajpilomabDoor
