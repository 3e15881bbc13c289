/-
  Ours: interest.valid.
-/
import Derived.Test.YtgdmkcbbomfmdaaGreatDoorCalAdj
import Derived.Test.YtgdmkcbbomfmdaaGreatDoorCalRef2
import Derived.Test.YtgdmkcbbomfmdaaGreatDoorIntPays
import Derived.Test.YtgdmkcbbomfmdaaGreatDoorCalAdj2
namespace Go.Proofs.YtgdmkcbbomfmdaaGreatDoor
open Go.RowKit CalM

theorem refAdd_out (day months a : Int) (h : ¬((1 ≤ day ∧ day ≤ 3652059) ∧ 1 ≤ a ∧ a ≤ 31 ∧ -119987 ≤ months ∧ months ≤ 119987)) (w : World) :
    Calls Tryz.prog 53 #[.int .i64 day, .int .i64 months, .int .i64 a] w fun e w' => e = .returned (.tuple #[.int .i64 0, .bool false]) ∧ Up w w' := by
  obtain ⟨b, hb⟩ : ∃ b, decide (1 ≤ day ∧ day ≤ 3652059) = b := ⟨_, rfl⟩
  have ID : Hid (∀ w, Calls Tryz.prog 92 #[.int .i64 day] w fun e w' => e = .returned (.bool b) ∧ w' = w) := fun w => refIsDay_at day b hb w
  cases b
  · clear h hb
    go_enter Tryz.func53, Tryz.ntmps53
    go_wp2_with fail
    refine (ID.out _).mono ?_
    rintro e w1 ⟨rfl, hw⟩; rw [hw]; clear hw w1
    go_wp2_with fail
    go_ret2
    exact ⟨rfl, Up.refl _⟩
  · have hd := of_decide_eq_true hb
    have HO : Hid (¬(1 ≤ a ∧ a ≤ 31 ∧ -119987 ≤ months ∧ months ≤ 119987)) := fun g => h ⟨hd, g⟩
    clear h hb
    go_enter Tryz.func53, Tryz.ntmps53
    go_wp2_with fail
    refine (ID.out _).mono ?_
    rintro e w1 ⟨rfl, hw⟩; rw [hw]; clear hw w1
    go_wp2_with fail
    all_goals first
      | (exfalso
         exact HO.out (by omega))
      | (go_ret2
         exact ⟨rfl, Up.refl _⟩)

set_option maxRecDepth 100000 in
set_option maxHeartbeats 2000000 in
theorem refAdd_in (y m k day months a q : Int) (h : Ok y m k) (hd : dA y m + k = day) (a1 : 1 ≤ a) (a2 : a ≤ 31) (x1 : -119987 ≤ months) (x2 : months ≤ 119987) (hq : (y - 1) * 12 + m - 1 + months = q) (w : World) :
    Calls Tryz.prog 53 #[.int .i64 day, .int .i64 months, .int .i64 a] w fun e w' => e = .returned (.tuple #[.int .i64 (stepN q a), .bool (stepB q)]) ∧ Up w w' := by
  have hr := day_range h
  rw [hd] at hr
  have ID : Hid (∀ w, Calls Tryz.prog 92 #[.int .i64 day] w fun e w' => e = .returned (.bool true) ∧ w' = w) := fun w => refIsDay_at day true (decide_eq_true hr) w
  have CA : Hid (∀ w : World, Calls Tryz.prog 52 #[.int .i64 day] w fun e w' => e = .returned (.tuple #[.agg #[.int .i64 y, .int .i64 m, .int .i64 k], .bool true]) ∧ ∃ o, w' = w.alloc o) := fun w => refCivil_at y m k day h hd w
  obtain ⟨y1, y2, m1, m2, k1, k2⟩ := h
  have eq : 12 * (y - 1) + m - 1 + months = q := by omega
  by_cases g : 0 ≤ q ∧ q ≤ 119987
  · have e1 : stepB q = true := decide_eq_true g
    have e2 : stepN q a = dA (q / 12 + 1) (q % 12 + 1) + landI q a := by unfold stepN; rw [if_pos g]
    obtain ⟨n, hn⟩ : ∃ n, stepN q a = n := ⟨_, rfl⟩
    rw [e1, hn]
    rw [hn] at e2
    have l1 := len_low (q / 12 + 1) (q % 12 + 1)
    have l2 := len_high (q / 12 + 1) (q % 12 + 1)
    have LO : Hid (∀ w : World, Calls Tryz.prog 94 #[.int .i64 (q / 12 + 1), .int .i64 (q % 12 + 1)] w fun e w' => e = .returned (.int .i64 (lenI (q / 12 + 1) (q % 12 + 1))) ∧ w' = w) := fun w => lenOf_at _ _ _ (by omega) (by omega) (by omega) rfl w
    have NU : Hid (∀ (x : Int) (w : World), x = landI q a → Calls Tryz.prog 95 #[.agg #[.int .i64 (q / 12 + 1), .int .i64 (q % 12 + 1), .int .i64 x]] w fun e w' => e = .returned (.tuple #[.int .i64 n, .bool true]) ∧ ∃ o n, w' = (w.alloc o).drewN n) := fun x w hx => by
      subst hx
      refine refNumber_at _ _ _ n ⟨by omega, by omega, by omega, by omega, ?_, ?_⟩ e2.symm w <;> unfold landI <;> omega
    have LD : Hid (landI q a = min a (lenI (q / 12 + 1) (q % 12 + 1))) := rfl
    clear hd e1 e2 hn k1 k2 hr hq
    obtain ⟨g1, g2⟩ := g
    generalize lenI (q / 12 + 1) (q % 12 + 1) = L at *
    generalize landI q a = D at *
    have AD := al_drewN
    have SD := set_drewN
    go_enter Tryz.func53, Tryz.ntmps53
    go_wp2_with fail
    refine (ID.out _).mono ?_
    rintro e w1 ⟨rfl, hw⟩; rw [hw]; clear hw w1
    go_wp2_with fail
    refine (CA.out _).mono ?_
    rintro e w1 ⟨rfl, o1, hw⟩; rw [hw]; clear hw w1
    go_wp2_with fail
    refine (LO.out _).mono ?_
    rintro e w1 ⟨rfl, hw⟩; rw [hw]; clear hw w1
    go_wp2_with fail
    all_goals
      refine (NU.out _ _ (by have := LD.out; omega)).mono ?_
      rintro e w1 ⟨rfl, o2, j2, hw⟩; rw [hw]; clear hw w1
      go_wp2_with fail
      go_ret2
      exact ⟨rfl, by repeat (first | exact Up.refl _ | refine up_drewN ?_ _ | refine Up.alloc ?_ _)⟩
  · have e1 : stepB q = false := decide_eq_false g
    have e2 : stepN q a = 0 := by unfold stepN; rw [if_neg g]
    rw [e1, e2]
    clear e1 e2 hd k1 k2 hr hq
    have HG : Hid (¬(0 ≤ q ∧ q ≤ 119987)) := g
    clear g
    go_enter Tryz.func53, Tryz.ntmps53
    go_wp2_with fail
    refine (ID.out _).mono ?_
    rintro e w1 ⟨rfl, hw⟩; rw [hw]; clear hw w1
    go_wp2_with fail
    refine (CA.out _).mono ?_
    rintro e w1 ⟨rfl, o1, hw⟩; rw [hw]; clear hw w1
    go_wp2_with fail
    all_goals first
      | (exfalso
         exact HG.out (by omega))
      | (go_ret2
         exact ⟨rfl, by repeat (first | exact Up.refl _ | refine up_drewN ?_ _ | refine Up.alloc ?_ _)⟩)

theorem add_both (day months a : Int) : ∃ (n : Int) (b : Bool), Hid (∀ w, TabA w → TabL w → Calls Tryz.prog 111 #[.int .i64 day, .int .i64 months, .int .i64 a] w fun e w' => e = .returned (.tuple #[.int .i64 n, .bool b]) ∧ Up w w') ∧ Hid (∀ w, Calls Tryz.prog 53 #[.int .i64 day, .int .i64 months, .int .i64 a] w fun e w' => e = .returned (.tuple #[.int .i64 n, .bool b]) ∧ Up w w') := by
  by_cases h : 1 ≤ day ∧ day ≤ 3652059
  · obtain ⟨y, m, k, hk, hd⟩ := civil_exists day h.1 h.2
    by_cases ha : 1 ≤ a ∧ a ≤ 31
    · by_cases hm : -119987 ≤ months ∧ months ≤ 119987
      · exact ⟨_, _, fun w hA hL => addMonths_up y m k day months a _ hk hd ha.1 ha.2 rfl w hA hL, fun w => refAdd_in y m k day months a _ hk hd ha.1 ha.2 hm.1 hm.2 rfl w⟩
      · refine ⟨0, false, fun w hA hL => ?_, fun w => refAdd_out day months a (fun g => hm g.2.2.2) w⟩
        refine (addMonths_nomonth y m k day months a hk hd ha.1 ha.2 ?_ w hA).mono fun e w' ⟨he, o1, o2, hw⟩ => ⟨he, by rw [hw]; exact (Up.alloc (Up.alloc (Up.refl w) _) _)⟩
        obtain ⟨y1, y2, m1, m2, _, _⟩ := hk
        omega
    · exact ⟨0, false, fun w hA hL => (addMonths_noanchor y m k day months a hk hd ha w hA).mono fun e w' ⟨he, o1, o2, hw⟩ => ⟨he, by rw [hw]; exact (Up.alloc (Up.alloc (Up.refl w) _) _)⟩, fun w => refAdd_out day months a (fun g => ha ⟨g.2.1, g.2.2.1⟩) w⟩
  · exact ⟨0, false, fun w hA hL => (addMonths_noday day months a h w).mono fun e w' ⟨he, o1, o2, hw⟩ => ⟨he, by rw [hw]; exact (Up.alloc (Up.alloc (Up.refl w) _) _)⟩, fun w => refAdd_out day months a (fun g => h g.1) w⟩

end Go.Proofs.YtgdmkcbbomfmdaaGreatDoor

namespace Go.Proofs.YtgdmkcbbomfmdaaGreatDoor
open Go.RowKit IntM CalM

/-- Terms, as a value. -/
def termsV (kind P r n start rule : Int) : Value := .agg #[.int .i64 kind, .int .i64 P, .int .i64 r, .int .i64 n, .int .i64 start, .int .i64 rule]
def validB (kind P r n start rule : Int) : Bool := decide ((1 ≤ start ∧ start ≤ 3652059) ∧ (0 ≤ kind ∧ kind ≤ 2) ∧ (1 ≤ P ∧ P ≤ 10000000000000) ∧ (0 ≤ r ∧ r ≤ 100000) ∧ (1 ≤ n ∧ n ≤ 120) ∧ (0 ≤ rule ∧ rule ≤ 3))

theorem cell_in {w W : World} {cs : Array Value} {t : TypeId} (U : Up (w.alloc (.cells cs t)) W) (i : Nat) (v : Value) (h : cs[i]? = some v) : W.cell? ⟨w.heap.size, i, none⟩ = some v := U.cell (cell_new w cs t i _ v h rfl)

set_option maxHeartbeats 1000000 in
theorem valid_k0 (kind P r n start rule : Int) (hs : 1 ≤ start ∧ start ≤ 3652059) (k0 : ¬ 0 ≤ kind) (w : World) (hA : TabA w) :
    Calls Tryz.prog 80 #[termsV kind P r n start rule] w fun e w' => e = .returned (.bool false) ∧ Up w w' := by
  unfold termsV
  obtain ⟨y, m, k, hk, hd⟩ := civil_exists start hs.1 hs.2
  have CA : Hid (∀ w, TabA w → Calls Tryz.prog 103 #[.int .i64 start] w fun e w' => e = .returned (.tuple #[.agg #[.int .i64 y, .int .i64 m, .int .i64 k], .bool true]) ∧ ∃ o, w' = w.alloc o) := fun w hA => civil_at y m k start hk hd w hA
  have HA : Hid (TabA w) := hA
  clear hA hk hd hs
  go_enter Tryz.func80, Tryz.ntmps80
  go_wp2_with fail
  refine (CA.out _ (HA.out.al _)).mono ?_
  rintro e w1 ⟨rfl, o, hw⟩; rw [hw]; clear hw w1
  go_wp2_with fail
  go_ret
  exact ⟨rfl, ((Up.refl w).alloc _).alloc _ |>.alloc _⟩

set_option maxHeartbeats 1000000 in
theorem valid_k1 (kind P r n start rule : Int) (hs : 1 ≤ start ∧ start ≤ 3652059) (k0 : 0 ≤ kind) (k1 : ¬ kind ≤ 2) (w : World) (hA : TabA w) :
    Calls Tryz.prog 80 #[termsV kind P r n start rule] w fun e w' => e = .returned (.bool false) ∧ Up w w' := by
  unfold termsV
  obtain ⟨y, m, k, hk, hd⟩ := civil_exists start hs.1 hs.2
  have CA : Hid (∀ w, TabA w → Calls Tryz.prog 103 #[.int .i64 start] w fun e w' => e = .returned (.tuple #[.agg #[.int .i64 y, .int .i64 m, .int .i64 k], .bool true]) ∧ ∃ o, w' = w.alloc o) := fun w hA => civil_at y m k start hk hd w hA
  have HA : Hid (TabA w) := hA
  clear hA hk hd hs
  go_enter Tryz.func80, Tryz.ntmps80
  go_wp2_with fail
  refine (CA.out _ (HA.out.al _)).mono ?_
  rintro e w1 ⟨rfl, o, hw⟩; rw [hw]; clear hw w1
  go_wp2_with fail
  go_ret
  exact ⟨rfl, ((Up.refl w).alloc _).alloc _ |>.alloc _⟩

set_option maxHeartbeats 1000000 in
theorem valid_p0 (kind P r n start rule : Int) (hs : 1 ≤ start ∧ start ≤ 3652059) (k0 : 0 ≤ kind) (k1 : kind ≤ 2) (p0 : ¬ 1 ≤ P) (w : World) (hA : TabA w) :
    Calls Tryz.prog 80 #[termsV kind P r n start rule] w fun e w' => e = .returned (.bool false) ∧ Up w w' := by
  unfold termsV
  obtain ⟨y, m, k, hk, hd⟩ := civil_exists start hs.1 hs.2
  have CA : Hid (∀ w, TabA w → Calls Tryz.prog 103 #[.int .i64 start] w fun e w' => e = .returned (.tuple #[.agg #[.int .i64 y, .int .i64 m, .int .i64 k], .bool true]) ∧ ∃ o, w' = w.alloc o) := fun w hA => civil_at y m k start hk hd w hA
  have HA : Hid (TabA w) := hA
  clear hA hk hd hs
  go_enter Tryz.func80, Tryz.ntmps80
  go_wp2_with fail
  refine (CA.out _ (HA.out.al _)).mono ?_
  rintro e w1 ⟨rfl, o, hw⟩; rw [hw]; clear hw w1
  go_wp2_with fail
  go_ret
  exact ⟨rfl, ((Up.refl w).alloc _).alloc _ |>.alloc _⟩

set_option maxHeartbeats 1000000 in
theorem valid_p1 (kind P r n start rule : Int) (hs : 1 ≤ start ∧ start ≤ 3652059) (k0 : 0 ≤ kind) (k1 : kind ≤ 2) (p0 : 1 ≤ P) (p1 : ¬ P ≤ 10000000000000) (w : World) (hA : TabA w) :
    Calls Tryz.prog 80 #[termsV kind P r n start rule] w fun e w' => e = .returned (.bool false) ∧ Up w w' := by
  unfold termsV
  obtain ⟨y, m, k, hk, hd⟩ := civil_exists start hs.1 hs.2
  have CA : Hid (∀ w, TabA w → Calls Tryz.prog 103 #[.int .i64 start] w fun e w' => e = .returned (.tuple #[.agg #[.int .i64 y, .int .i64 m, .int .i64 k], .bool true]) ∧ ∃ o, w' = w.alloc o) := fun w hA => civil_at y m k start hk hd w hA
  have HA : Hid (TabA w) := hA
  clear hA hk hd hs
  go_enter Tryz.func80, Tryz.ntmps80
  go_wp2_with fail
  refine (CA.out _ (HA.out.al _)).mono ?_
  rintro e w1 ⟨rfl, o, hw⟩; rw [hw]; clear hw w1
  go_wp2_with fail
  go_ret
  exact ⟨rfl, ((Up.refl w).alloc _).alloc _ |>.alloc _⟩

set_option maxHeartbeats 1000000 in
theorem valid_R (kind P r n start rule : Int) (hs : 1 ≤ start ∧ start ≤ 3652059) (k0 : 0 ≤ kind) (k1 : kind ≤ 2) (p0 : 1 ≤ P) (p1 : P ≤ 10000000000000) (hR : rateB r = false) (w : World) (hA : TabA w) :
    Calls Tryz.prog 80 #[termsV kind P r n start rule] w fun e w' => e = .returned (.bool false) ∧ Up w w' := by
  unfold termsV
  obtain ⟨y, m, k, hk, hd⟩ := civil_exists start hs.1 hs.2
  have CA : Hid (∀ w, TabA w → Calls Tryz.prog 103 #[.int .i64 start] w fun e w' => e = .returned (.tuple #[.agg #[.int .i64 y, .int .i64 m, .int .i64 k], .bool true]) ∧ ∃ o, w' = w.alloc o) := fun w hA => civil_at y m k start hk hd w hA
  have HA : Hid (TabA w) := hA
  clear hA hk hd hs
  have IR : Hid (∀ w, Calls Tryz.prog 104 #[.int .i64 r] w fun e w' => e = .returned (.bool false) ∧ w' = w) := fun w => isRate_at r false hR w
  clear hR
  go_enter Tryz.func80, Tryz.ntmps80
  go_wp2_with fail
  refine (CA.out _ (HA.out.al _)).mono ?_
  rintro e w1 ⟨rfl, o, hw⟩; rw [hw]; clear hw w1
  go_wp2_with fail
  refine (IR.out _).mono ?_
  rintro e w1 ⟨rfl, hw⟩; rw [hw]; clear hw w1
  go_wp2_with fail
  go_ret
  exact ⟨rfl, ((Up.refl w).alloc _).alloc _ |>.alloc _⟩

set_option maxHeartbeats 1000000 in
theorem valid_C (kind P r n start rule : Int) (hs : 1 ≤ start ∧ start ≤ 3652059) (k0 : 0 ≤ kind) (k1 : kind ≤ 2) (p0 : 1 ≤ P) (p1 : P ≤ 10000000000000) (hR : rateB r = true) (hC : cntB n = false) (w : World) (hA : TabA w) :
    Calls Tryz.prog 80 #[termsV kind P r n start rule] w fun e w' => e = .returned (.bool false) ∧ Up w w' := by
  unfold termsV
  obtain ⟨y, m, k, hk, hd⟩ := civil_exists start hs.1 hs.2
  have CA : Hid (∀ w, TabA w → Calls Tryz.prog 103 #[.int .i64 start] w fun e w' => e = .returned (.tuple #[.agg #[.int .i64 y, .int .i64 m, .int .i64 k], .bool true]) ∧ ∃ o, w' = w.alloc o) := fun w hA => civil_at y m k start hk hd w hA
  have HA : Hid (TabA w) := hA
  clear hA hk hd hs
  have IR : Hid (∀ w, Calls Tryz.prog 104 #[.int .i64 r] w fun e w' => e = .returned (.bool true) ∧ w' = w) := fun w => isRate_at r true hR w
  clear hR
  have IC : Hid (∀ w, Calls Tryz.prog 105 #[.int .i64 n] w fun e w' => e = .returned (.bool false) ∧ w' = w) := fun w => isCount_at n false hC w
  clear hC
  go_enter Tryz.func80, Tryz.ntmps80
  go_wp2_with fail
  refine (CA.out _ (HA.out.al _)).mono ?_
  rintro e w1 ⟨rfl, o, hw⟩; rw [hw]; clear hw w1
  go_wp2_with fail
  refine (IR.out _).mono ?_
  rintro e w1 ⟨rfl, hw⟩; rw [hw]; clear hw w1
  go_wp2_with fail
  refine (IC.out _).mono ?_
  rintro e w1 ⟨rfl, hw⟩; rw [hw]; clear hw w1
  go_wp2_with fail
  go_ret
  exact ⟨rfl, ((Up.refl w).alloc _).alloc _ |>.alloc _⟩

set_option maxHeartbeats 1000000 in
theorem valid_u0 (kind P r n start rule : Int) (hs : 1 ≤ start ∧ start ≤ 3652059) (k0 : 0 ≤ kind) (k1 : kind ≤ 2) (p0 : 1 ≤ P) (p1 : P ≤ 10000000000000) (hR : rateB r = true) (hC : cntB n = true) (u0 : ¬ 0 ≤ rule) (w : World) (hA : TabA w) :
    Calls Tryz.prog 80 #[termsV kind P r n start rule] w fun e w' => e = .returned (.bool false) ∧ Up w w' := by
  unfold termsV
  obtain ⟨y, m, k, hk, hd⟩ := civil_exists start hs.1 hs.2
  have CA : Hid (∀ w, TabA w → Calls Tryz.prog 103 #[.int .i64 start] w fun e w' => e = .returned (.tuple #[.agg #[.int .i64 y, .int .i64 m, .int .i64 k], .bool true]) ∧ ∃ o, w' = w.alloc o) := fun w hA => civil_at y m k start hk hd w hA
  have HA : Hid (TabA w) := hA
  clear hA hk hd hs
  have IR : Hid (∀ w, Calls Tryz.prog 104 #[.int .i64 r] w fun e w' => e = .returned (.bool true) ∧ w' = w) := fun w => isRate_at r true hR w
  clear hR
  have IC : Hid (∀ w, Calls Tryz.prog 105 #[.int .i64 n] w fun e w' => e = .returned (.bool true) ∧ w' = w) := fun w => isCount_at n true hC w
  clear hC
  go_enter Tryz.func80, Tryz.ntmps80
  go_wp2_with fail
  refine (CA.out _ (HA.out.al _)).mono ?_
  rintro e w1 ⟨rfl, o, hw⟩; rw [hw]; clear hw w1
  go_wp2_with fail
  refine (IR.out _).mono ?_
  rintro e w1 ⟨rfl, hw⟩; rw [hw]; clear hw w1
  go_wp2_with fail
  refine (IC.out _).mono ?_
  rintro e w1 ⟨rfl, hw⟩; rw [hw]; clear hw w1
  go_wp2_with fail
  go_ret
  exact ⟨rfl, ((Up.refl w).alloc _).alloc _ |>.alloc _⟩

set_option maxHeartbeats 1000000 in
theorem valid_u1 (kind P r n start rule : Int) (hs : 1 ≤ start ∧ start ≤ 3652059) (k0 : 0 ≤ kind) (k1 : kind ≤ 2) (p0 : 1 ≤ P) (p1 : P ≤ 10000000000000) (hR : rateB r = true) (hC : cntB n = true) (u0 : 0 ≤ rule) (u1 : ¬ rule ≤ 3) (w : World) (hA : TabA w) :
    Calls Tryz.prog 80 #[termsV kind P r n start rule] w fun e w' => e = .returned (.bool false) ∧ Up w w' := by
  unfold termsV
  obtain ⟨y, m, k, hk, hd⟩ := civil_exists start hs.1 hs.2
  have CA : Hid (∀ w, TabA w → Calls Tryz.prog 103 #[.int .i64 start] w fun e w' => e = .returned (.tuple #[.agg #[.int .i64 y, .int .i64 m, .int .i64 k], .bool true]) ∧ ∃ o, w' = w.alloc o) := fun w hA => civil_at y m k start hk hd w hA
  have HA : Hid (TabA w) := hA
  clear hA hk hd hs
  have IR : Hid (∀ w, Calls Tryz.prog 104 #[.int .i64 r] w fun e w' => e = .returned (.bool true) ∧ w' = w) := fun w => isRate_at r true hR w
  clear hR
  have IC : Hid (∀ w, Calls Tryz.prog 105 #[.int .i64 n] w fun e w' => e = .returned (.bool true) ∧ w' = w) := fun w => isCount_at n true hC w
  clear hC
  go_enter Tryz.func80, Tryz.ntmps80
  go_wp2_with fail
  refine (CA.out _ (HA.out.al _)).mono ?_
  rintro e w1 ⟨rfl, o, hw⟩; rw [hw]; clear hw w1
  go_wp2_with fail
  refine (IR.out _).mono ?_
  rintro e w1 ⟨rfl, hw⟩; rw [hw]; clear hw w1
  go_wp2_with fail
  refine (IC.out _).mono ?_
  rintro e w1 ⟨rfl, hw⟩; rw [hw]; clear hw w1
  go_wp2_with fail
  go_ret
  exact ⟨ret_bool (decide_eq_false (by omega)), ((Up.refl w).alloc _).alloc _ |>.alloc _⟩

set_option maxHeartbeats 1000000 in
theorem valid_yes (kind P r n start rule : Int) (hs : 1 ≤ start ∧ start ≤ 3652059) (k0 : 0 ≤ kind) (k1 : kind ≤ 2) (p0 : 1 ≤ P) (p1 : P ≤ 10000000000000) (hR : rateB r = true) (hC : cntB n = true) (u0 : 0 ≤ rule) (u1 : rule ≤ 3) (w : World) (hA : TabA w) :
    Calls Tryz.prog 80 #[termsV kind P r n start rule] w fun e w' => e = .returned (.bool true) ∧ Up w w' := by
  unfold termsV
  obtain ⟨y, m, k, hk, hd⟩ := civil_exists start hs.1 hs.2
  have CA : Hid (∀ w, TabA w → Calls Tryz.prog 103 #[.int .i64 start] w fun e w' => e = .returned (.tuple #[.agg #[.int .i64 y, .int .i64 m, .int .i64 k], .bool true]) ∧ ∃ o, w' = w.alloc o) := fun w hA => civil_at y m k start hk hd w hA
  have HA : Hid (TabA w) := hA
  clear hA hk hd hs
  have IR : Hid (∀ w, Calls Tryz.prog 104 #[.int .i64 r] w fun e w' => e = .returned (.bool true) ∧ w' = w) := fun w => isRate_at r true hR w
  clear hR
  have IC : Hid (∀ w, Calls Tryz.prog 105 #[.int .i64 n] w fun e w' => e = .returned (.bool true) ∧ w' = w) := fun w => isCount_at n true hC w
  clear hC
  go_enter Tryz.func80, Tryz.ntmps80
  go_wp2_with fail
  refine (CA.out _ (HA.out.al _)).mono ?_
  rintro e w1 ⟨rfl, o, hw⟩; rw [hw]; clear hw w1
  go_wp2_with fail
  refine (IR.out _).mono ?_
  rintro e w1 ⟨rfl, hw⟩; rw [hw]; clear hw w1
  go_wp2_with fail
  refine (IC.out _).mono ?_
  rintro e w1 ⟨rfl, hw⟩; rw [hw]; clear hw w1
  go_wp2_with fail
  go_ret
  exact ⟨rfl, ((Up.refl w).alloc _).alloc _ |>.alloc _⟩

theorem valid_day (kind P r n start rule : Int) (hs : ¬ (1 ≤ start ∧ start ≤ 3652059)) (w : World) :
    Calls Tryz.prog 80 #[termsV kind P r n start rule] w fun e w' => e = .returned (.bool false) ∧ Up w w' := by
  unfold termsV
  have CA : Hid (∀ w, Calls Tryz.prog 103 #[.int .i64 start] w fun e w' => e = .returned (.tuple #[.agg #[.int .i64 0, .int .i64 0, .int .i64 0], .bool false]) ∧ ∃ o, w' = w.alloc o) := fun w => civil_no start hs w
  clear hs
  go_enter Tryz.func80, Tryz.ntmps80
  go_wp2_with fail
  refine (CA.out _).mono ?_
  rintro e w1 ⟨rfl, o, hw⟩; rw [hw]; clear hw w1
  go_wp2_with fail
  go_ret
  exact ⟨rfl, ((Up.refl w).alloc _).alloc _ |>.alloc _⟩

theorem valid_at (kind P r n start rule : Int) (w : World) (hA : TabA w) :
    Calls Tryz.prog 80 #[termsV kind P r n start rule] w fun e w' => e = .returned (.bool (validB kind P r n start rule)) ∧ Up w w' := by
  have no : ¬ ((1 ≤ start ∧ start ≤ 3652059) ∧ (0 ≤ kind ∧ kind ≤ 2) ∧ (1 ≤ P ∧ P ≤ 10000000000000) ∧ (0 ≤ r ∧ r ≤ 100000) ∧ (1 ≤ n ∧ n ≤ 120) ∧ (0 ≤ rule ∧ rule ≤ 3)) → validB kind P r n start rule = false := fun h => decide_eq_false h
  by_cases hs : 1 ≤ start ∧ start ≤ 3652059
  · by_cases k0 : 0 ≤ kind
    · by_cases k1 : kind ≤ 2
      · by_cases p0 : 1 ≤ P
        · by_cases p1 : P ≤ 10000000000000
          · cases hR : rateB r with
            | false => rw [no (by have := of_decide_eq_false hR; omega)]; exact valid_R kind P r n start rule hs k0 k1 p0 p1 hR w hA
            | true =>
              cases hC : cntB n with
              | false => rw [no (by have := of_decide_eq_false hC; omega)]; exact valid_C kind P r n start rule hs k0 k1 p0 p1 hR hC w hA
              | true =>
                by_cases u0 : 0 ≤ rule
                · by_cases u1 : rule ≤ 3
                  · have : validB kind P r n start rule = true := decide_eq_true (by have := of_decide_eq_true hR; have := of_decide_eq_true hC; omega)
                    rw [this]; exact valid_yes kind P r n start rule hs k0 k1 p0 p1 hR hC u0 u1 w hA
                  · rw [no (by omega)]; exact valid_u1 kind P r n start rule hs k0 k1 p0 p1 hR hC u0 u1 w hA
                · rw [no (by omega)]; exact valid_u0 kind P r n start rule hs k0 k1 p0 p1 hR hC u0 w hA
          · rw [no (by omega)]; exact valid_p1 kind P r n start rule hs k0 k1 p0 p1 w hA
        · rw [no (by omega)]; exact valid_p0 kind P r n start rule hs k0 k1 p0 w hA
      · rw [no (by omega)]; exact valid_k1 kind P r n start rule hs k0 k1 w hA
    · rw [no (by omega)]; exact valid_k0 kind P r n start rule hs k0 w hA
  · rw [no (fun h => hs h.1)]; exact valid_day kind P r n start rule hs w

end Go.Proofs.YtgdmkcbbomfmdaaGreatDoor
