/-
  Ours: Plan at any terms and holidays, the program's and the reference's.
-/
import Derived.Test.YtkabfdajpilomabDoorIntPlanR
import Derived.Test.YtkabfdajpilomabDoorCalDate
namespace Go.Proofs.YtkabfdajpilomabDoor
open Go.RowKit IntM CalM

open Classical in
/-- The level payment, 0 where there is none. -/
noncomputable def payN (P r : Int) (n : Nat) : Int := if h : ∃ p, Lv P r n p then Classical.choose h else 0
theorem payN_spec {P r p : Int} {n : Nat} (h : Lv P r n p) : Lv P r n (payN P r n) := by
  unfold payN
  rw [dif_pos ⟨p, h⟩]
  exact Classical.choose_spec (⟨p, h⟩ : ∃ p, Lv P r n p)

/-- The due day of a month of terms. -/
noncomputable def dueT (start rule : Int) (xs : List Int) (k : Nat) : Option Int := dueO ((dY start - 1) * 12 + dM start - 1 + (k : Int)) (dK start) xs rule
/-- The rows of a plan, none where it is refused. -/
noncomputable def planO (kind P r n start rule : Int) (xs : List Int) : Option (List (Int × Int × Int)) :=
  if validB kind P r n start rule = true ∧ xs.length ≤ 64 then planF r (partI kind P n.toNat (payN P r n.toNat)) (dueT start rule xs) n.toNat 0 P else none

theorem valid_parts {kind P r n start rule : Int} (hv : validB kind P r n start rule = true) : (1 ≤ start ∧ start ≤ 3652059) ∧ (kind = 0 ∨ kind = 1 ∨ kind = 2) ∧ (1 ≤ P ∧ P ≤ 10000000000000) ∧ (0 ≤ r ∧ r ≤ 100000) ∧ (1 ≤ n ∧ n ≤ 120) ∧ (0 ≤ rule ∧ rule ≤ 3) ∧ Lv P r n.toNat (payN P r n.toNat) := by
  obtain ⟨h1, h2, h3, h4, h5, h6⟩ := of_decide_eq_true hv
  refine ⟨h1, by omega, h3, h4, h5, h6, ?_⟩
  obtain ⟨j, hj⟩ : ∃ j, n.toNat = j + 1 := ⟨n.toNat - 1, by omega⟩
  rw [hj]
  obtain ⟨p, hp, _⟩ := lv_lend j h3.1 h3.2 h4.1 h4.2
  exact payN_spec hp

theorem plan_no (kind P r n start rule : Int) (xs : List Int) (a : Option Addr) (cap : Nat) (h : ¬ (validB kind P r n start rule = true ∧ xs.length ≤ 64)) (w : World) (hA : TabA w) :
    Calls Tryd.prog 6 #[termsV kind P r n start rule, .slice a xs.length cap] w fun e w' => Up w w' ∧ PlanEnd w.heap.size none e w' := by
  have VA : Hid (∀ w, TabA w → Calls Tryd.prog 19 #[termsV kind P r n start rule] w fun e w' => e = .returned (.bool (validB kind P r n start rule)) ∧ Up w w') := fun w hA => valid_at kind P r n start rule w hA
  have HA : Hid (TabA w) := hA
  cases hv : validB kind P r n start rule with
  | false =>
    rw [hv] at VA
    clear h hA hv
    generalize xs.length = L at *
    unfold termsV at *
    go_enter Tryd.func6, Tryd.ntmps6
    go_wp2_with fail
    refine (VA.out _ (HA.out.al _)).mono ?_
    rintro e w1 ⟨rfl, U1⟩
    go_wp2_with fail
    go_ret2
    exact ⟨((Up.refl w).alloc _).trans U1, _, rfl, rfl⟩
  | true =>
    rw [hv] at VA
    have hl : 64 < (xs.length : Int) := by
      have : ¬ xs.length ≤ 64 := fun g => h ⟨hv, g⟩
      omega
    clear h hA hv
    generalize xs.length = L at *
    unfold termsV at *
    go_enter Tryd.func6, Tryd.ntmps6
    go_wp2_with fail
    refine (VA.out _ (HA.out.al _)).mono ?_
    rintro e w1 ⟨rfl, U1⟩
    go_wp2_with fail
    go_ret2
    exact ⟨((Up.refl w).alloc _).trans U1, _, rfl, rfl⟩

theorem refPlan_no (kind P r n start rule : Int) (xs : List Int) (a : Option Addr) (cap : Nat) (h : ¬ (validB kind P r n start rule = true ∧ xs.length ≤ 64)) (w : World) :
    Calls Tryd.prog 17 #[termsV kind P r n start rule, .slice a xs.length cap] w fun e w' => Up w w' ∧ PlanEnd w.heap.size none e w' := by
  have VA : Hid (∀ w, Calls Tryd.prog 33 #[termsV kind P r n start rule] w fun e w' => e = .returned (.bool (validB kind P r n start rule)) ∧ Up w w') := fun w => refValid_at kind P r n start rule w
  cases hv : validB kind P r n start rule with
  | false =>
    rw [hv] at VA
    clear h hv
    generalize xs.length = L at *
    unfold termsV at *
    go_enter Tryd.func17, Tryd.ntmps17
    go_wp2_with fail
    refine (VA.out _).mono ?_
    rintro e w1 ⟨rfl, U1⟩
    go_wp2_with fail
    go_ret2
    exact ⟨((Up.refl w).alloc _).trans U1, _, rfl, rfl⟩
  | true =>
    rw [hv] at VA
    have hl : 64 < (xs.length : Int) := by
      have : ¬ xs.length ≤ 64 := fun g => h ⟨hv, g⟩
      omega
    clear h hv
    generalize xs.length = L at *
    unfold termsV at *
    go_enter Tryd.func17, Tryd.ntmps17
    go_wp2_with fail
    refine (VA.out _).mono ?_
    rintro e w1 ⟨rfl, U1⟩
    go_wp2_with fail
    go_ret2
    exact ⟨((Up.refl w).alloc _).trans U1, _, rfl, rfl⟩

theorem plan_at (kind P r n start rule : Int) (xs : List Int) (a : Option Addr) (cap : Nat) (w : World) (hA : TabA w) (hL : TabL w) (hS : SlOk w a xs) :
    Calls Tryd.prog 6 #[termsV kind P r n start rule, .slice a xs.length cap] w fun e w' => Up w w' ∧ PlanEnd w.heap.size (planO kind P r n start rule xs) e w' := by
  by_cases h : validB kind P r n start rule = true ∧ xs.length ≤ 64
  · obtain ⟨hs, hk, hP, hr, hn, _, hp⟩ := valid_parts h.1
    unfold planO
    rw [if_pos h]
    obtain ⟨m, rfl⟩ : ∃ m : Nat, n = (m : Int) := ⟨n.toNat, by omega⟩
    rw [Int.toNat_natCast] at *
    obtain ⟨ok, hd⟩ := date_spec start hs.1 hs.2
    refine plan_go kind P r start rule (payN P r m) m (dY start) (dM start) (dK start) ok hd h.1 (fun w => ?_) (inv_start hP.1 (by omega) (fun _ => lv_pays hp)) a cap xs h.2 w hA hL hS
    rcases hk with rfl | rfl | rfl
    · exact parts0 P r start rule (payN P r m) m hP.1 hP.2 hr.1 hr.2 (by omega) (by omega) hp w
    · exact parts1 P r start rule (payN P r m) m hP.1 hP.2 (by omega) (by omega) w
    · exact parts2 P r start rule (payN P r m) m w
  · unfold planO
    rw [if_neg h]
    exact plan_no kind P r n start rule xs a cap h w hA

theorem refPlan_at (kind P r n start rule : Int) (xs : List Int) (a : Option Addr) (cap : Nat) (w : World) (hS : SlOk w a xs) :
    Calls Tryd.prog 17 #[termsV kind P r n start rule, .slice a xs.length cap] w fun e w' => Up w w' ∧ PlanEnd w.heap.size (planO kind P r n start rule xs) e w' := by
  by_cases h : validB kind P r n start rule = true ∧ xs.length ≤ 64
  · obtain ⟨hs, hk, hP, hr, hn, _, hp⟩ := valid_parts h.1
    unfold planO
    rw [if_pos h]
    obtain ⟨m, rfl⟩ : ∃ m : Nat, n = (m : Int) := ⟨n.toNat, by omega⟩
    rw [Int.toNat_natCast] at *
    obtain ⟨ok, hd⟩ := date_spec start hs.1 hs.2
    exact refPlan_go kind P r start rule (payN P r m) m (dY start) (dM start) (dK start) ok hd h.1 hp (inv_start hP.1 (by omega) (fun _ => lv_pays hp)) a cap xs h.2 w hS
  · unfold planO
    rw [if_neg h]
    exact refPlan_no kind P r n start rule xs a cap h w
end Go.Proofs.YtkabfdajpilomabDoor
