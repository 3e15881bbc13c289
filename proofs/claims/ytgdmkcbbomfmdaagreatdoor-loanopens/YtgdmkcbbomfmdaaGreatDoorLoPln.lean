/-
  Ours: (*draft).planOf.
-/
import Derived.Test.YtgdmkcbbomfmdaaGreatDoorIntPlanR
import Derived.Test.YtgdmkcbbomfmdaaGreatDoorCalMon3
import Derived.Test.YtgdmkcbbomfmdaaGreatDoorLedOwn
import Derived.Defers
import Derived.Recover
import Derived.Deep.RegionWith
namespace Go.Proofs.YtgdmkcbbomfmdaaGreatDoor
open Go.RowKit IntM CalM

open Classical in
/-- The level payment, 0 where there is none. -/
noncomputable def payN (P r : Int) (n : Nat) : Int := if h : ∃ p, Lv P r n p then Classical.choose h else 0
theorem payN_spec {P r p : Int} {n : Nat} (h : Lv P r n p) : Lv P r n (payN P r n) := by
  unfold payN
  rw [dif_pos ⟨p, h⟩]
  exact Classical.choose_spec (⟨p, h⟩ : ∃ p, Lv P r n p)

/-- The due day of a month of terms. -/
noncomputable def dueT (start rule : Int) (xs : List Int) (k : Nat) : Option Int := dueO ((dY start - 1) * 12 + dM start - 1 + (k : Int)) (dK start) xs rule
/-- The rows of a plan, none where it is refused. -/
noncomputable def planO (kind P r n start rule : Int) (xs : List Int) : Option (List (Int × Int × Int)) :=
  if validB kind P r n start rule = true ∧ xs.length ≤ 64 then planF r (partI kind P n.toNat (payN P r n.toNat)) (dueT start rule xs) n.toNat 0 P else none

theorem valid_parts {kind P r n start rule : Int} (hv : validB kind P r n start rule = true) : (1 ≤ start ∧ start ≤ 3652059) ∧ (kind = 0 ∨ kind = 1 ∨ kind = 2) ∧ (1 ≤ P ∧ P ≤ 10000000000000) ∧ (0 ≤ r ∧ r ≤ 100000) ∧ (1 ≤ n ∧ n ≤ 120) ∧ (0 ≤ rule ∧ rule ≤ 3) ∧ Lv P r n.toNat (payN P r n.toNat) := by
  obtain ⟨h1, h2, h3, h4, h5, h6⟩ := of_decide_eq_true hv
  refine ⟨h1, by omega, h3, h4, h5, h6, ?_⟩
  obtain ⟨j, hj⟩ : ∃ j, n.toNat = j + 1 := ⟨n.toNat - 1, by omega⟩
  rw [hj]
  obtain ⟨p, hp, _⟩ := lv_lend j h3.1 h3.2 h4.1 h4.2
  exact payN_spec hp

set_option maxRecDepth 20000 in
theorem plan_no (kind P r n start rule : Int) (xs : List Int) (a : Option Addr) (cap : Nat) (h : ¬ (validB kind P r n start rule = true ∧ xs.length ≤ 64)) (w : World) (hA : TabA w) :
    Calls Tryz.prog 46 #[termsV kind P r n start rule, .slice a xs.length cap] w fun e w' => Up w w' ∧ PlanEnd w.heap.size none e w' := by
  have VA : Hid (∀ w, TabA w → Calls Tryz.prog 80 #[termsV kind P r n start rule] w fun e w' => e = .returned (.bool (validB kind P r n start rule)) ∧ Up w w') := fun w hA => valid_at kind P r n start rule w hA
  have HA : Hid (TabA w) := hA
  cases hv : validB kind P r n start rule with
  | false =>
    rw [hv] at VA
    clear h hA hv
    generalize xs.length = L at *
    unfold termsV at *
    go_enter Tryz.func46, Tryz.ntmps46
    go_wp2_with fail
    refine (VA.out _ (HA.out.al _)).mono ?_
    rintro e w1 ⟨rfl, U1⟩
    go_wp2_with fail
    go_ret2
    exact ⟨((Up.refl w).alloc _).trans U1, _, rfl, rfl⟩
  | true =>
    rw [hv] at VA
    have hl : 64 < (xs.length : Int) := by
      have : ¬ xs.length ≤ 64 := fun g => h ⟨hv, g⟩
      omega
    clear h hA hv
    generalize xs.length = L at *
    unfold termsV at *
    go_enter Tryz.func46, Tryz.ntmps46
    go_wp2_with fail
    refine (VA.out _ (HA.out.al _)).mono ?_
    rintro e w1 ⟨rfl, U1⟩
    go_wp2_with fail
    go_ret2
    exact ⟨((Up.refl w).alloc _).trans U1, _, rfl, rfl⟩

set_option maxRecDepth 20000 in
theorem refPlan_no (kind P r n start rule : Int) (xs : List Int) (a : Option Addr) (cap : Nat) (h : ¬ (validB kind P r n start rule = true ∧ xs.length ≤ 64)) (w : World) :
    Calls Tryz.prog 16 #[termsV kind P r n start rule, .slice a xs.length cap] w fun e w' => Up w w' ∧ PlanEnd w.heap.size none e w' := by
  have VA : Hid (∀ w, Calls Tryz.prog 35 #[termsV kind P r n start rule] w fun e w' => e = .returned (.bool (validB kind P r n start rule)) ∧ Up w w') := fun w => refValid_at kind P r n start rule w
  cases hv : validB kind P r n start rule with
  | false =>
    rw [hv] at VA
    clear h hv
    generalize xs.length = L at *
    unfold termsV at *
    go_enter Tryz.func16, Tryz.ntmps16
    go_wp2_with fail
    refine (VA.out _).mono ?_
    rintro e w1 ⟨rfl, U1⟩
    go_wp2_with fail
    go_ret2
    exact ⟨((Up.refl w).alloc _).trans U1, _, rfl, rfl⟩
  | true =>
    rw [hv] at VA
    have hl : 64 < (xs.length : Int) := by
      have : ¬ xs.length ≤ 64 := fun g => h ⟨hv, g⟩
      omega
    clear h hv
    generalize xs.length = L at *
    unfold termsV at *
    go_enter Tryz.func16, Tryz.ntmps16
    go_wp2_with fail
    refine (VA.out _).mono ?_
    rintro e w1 ⟨rfl, U1⟩
    go_wp2_with fail
    go_ret2
    exact ⟨((Up.refl w).alloc _).trans U1, _, rfl, rfl⟩

theorem plan_at (kind P r n start rule : Int) (xs : List Int) (a : Option Addr) (cap : Nat) (w : World) (hA : TabA w) (hL : TabL w) (hS : SlOk w a xs) :
    Calls Tryz.prog 46 #[termsV kind P r n start rule, .slice a xs.length cap] w fun e w' => Up w w' ∧ PlanEnd w.heap.size (planO kind P r n start rule xs) e w' := by
  by_cases h : validB kind P r n start rule = true ∧ xs.length ≤ 64
  · obtain ⟨hs, hk, hP, hr, hn, _, hp⟩ := valid_parts h.1
    unfold planO
    rw [if_pos h]
    obtain ⟨m, rfl⟩ : ∃ m : Nat, n = (m : Int) := ⟨n.toNat, by omega⟩
    rw [Int.toNat_natCast] at *
    obtain ⟨ok, hd⟩ := date_spec start hs.1 hs.2
    refine plan_go kind P r start rule (payN P r m) m (dY start) (dM start) (dK start) ok hd h.1 (fun w => ?_) (inv_start hP.1 (by omega) (fun _ => lv_pays hp)) a cap xs h.2 w hA hL hS
    rcases hk with rfl | rfl | rfl
    · exact parts0 P r start rule (payN P r m) m hP.1 hP.2 hr.1 hr.2 (by omega) (by omega) hp w
    · exact parts1 P r start rule (payN P r m) m hP.1 hP.2 (by omega) (by omega) w
    · exact parts2 P r start rule (payN P r m) m w
  · unfold planO
    rw [if_neg h]
    exact plan_no kind P r n start rule xs a cap h w hA

theorem refPlan_at (kind P r n start rule : Int) (xs : List Int) (a : Option Addr) (cap : Nat) (w : World) (hS : SlOk w a xs) :
    Calls Tryz.prog 16 #[termsV kind P r n start rule, .slice a xs.length cap] w fun e w' => Up w w' ∧ PlanEnd w.heap.size (planO kind P r n start rule xs) e w' := by
  by_cases h : validB kind P r n start rule = true ∧ xs.length ≤ 64
  · obtain ⟨hs, hk, hP, hr, hn, _, hp⟩ := valid_parts h.1
    unfold planO
    rw [if_pos h]
    obtain ⟨m, rfl⟩ : ∃ m : Nat, n = (m : Int) := ⟨n.toNat, by omega⟩
    rw [Int.toNat_natCast] at *
    obtain ⟨ok, hd⟩ := date_spec start hs.1 hs.2
    exact refPlan_go kind P r start rule (payN P r m) m (dY start) (dM start) (dK start) ok hd h.1 hp (inv_start hP.1 (by omega) (fun _ => lv_pays hp)) a cap xs h.2 w hS
  · unfold planO
    rw [if_neg h]
    exact refPlan_no kind P r n start rule xs a cap h w
end Go.Proofs.YtgdmkcbbomfmdaaGreatDoor

namespace Go.Proofs.YtgdmkcbbomfmdaaGreatDoor
open Go.RowKit LedM
/-- The ending of a call that gave the whole up with the error k. -/
abbrev gaveUp (k : Int) : Ending := .panicked [{ v := .iface 39 (.int .i64 k), recovered := false }]
theorem insist_ok (w : World) : Calls Tryz.prog 25 #[.int .i64 0] w fun e w' => e = .returned (.tuple #[]) ∧ w' = w := by
  go_enter Tryz.func25, Tryz.ntmps25
  go_wp2_with fail
  first | go_end0 | refine bodyPost_ret (results_none rfl _ _ _) rfl ?_
  exact ⟨rfl, rfl⟩
theorem insist_no (k : Int) (hk : ¬ k = 0) (w : World) : Calls Tryz.prog 25 #[.int .i64 k] w fun e w' => e = gaveUp k ∧ w' = w := by
  have d : (k != 0) = true := by simpa using hk
  go_enter Tryz.func25, Tryz.ntmps25
  go_wp2_with fail
  exact ⟨rfl, rfl, rfl⟩
theorem refuse_no (k : Int) (w : World) : Calls Tryz.prog 26 #[.bool false, .int .i64 k] w fun e w' => e = .returned (.tuple #[]) ∧ w' = w := by
  go_enter Tryz.func26, Tryz.ntmps26
  go_wp2_with fail
  first | go_end0 | refine bodyPost_ret (results_none rfl _ _ _) rfl ?_
  exact ⟨rfl, rfl⟩
theorem refuse_yes (k : Int) (w : World) : Calls Tryz.prog 26 #[.bool true, .int .i64 k] w fun e w' => e = gaveUp k ∧ w' = w := by
  go_enter Tryz.func26, Tryz.ntmps26
  go_wp2_with fail
  exact ⟨rfl, rfl, rfl⟩
theorem run_errno (k : Int) (w : World) : (Instr.typeAssert (.iface 39 (.int .i64 k)) 20 39 true).run Tryz.prog w = .ok (.tuple #[.int .i64 k, .bool true]) w := by
  first | kernel_rfl | simp [Instr.typeAssert, go_sem, Tryz.underlying39]
theorem reason_at (k : Int) (w : World) : Calls Tryz.prog 23 #[.iface 39 (.int .i64 k)] w fun e w' => e = .returned (.int .i64 k) ∧ w' = w := by
  have hta := run_errno k
  go_enter Tryz.func23, Tryz.ntmps23
  go_wp2_with fail
  go_ret
  exact ⟨rfl, rfl⟩
theorem within_at (n a b : Int) (w : World) : Calls Tryz.prog 27 #[.int .i64 n, .int .i64 a, .int .i64 b] w fun e w' => e = .returned (.bool (decide (a ≤ n) && decide (n ≤ b))) ∧ w' = w := by
  go_enter Tryz.func27, Tryz.ntmps27
  go_wp2_with fail
  all_goals (go_ret; refine ⟨?_, rfl⟩)
  · have : decide (a ≤ n) = true := decide_eq_true (by assumption)
    simp [this]
  · have : decide (a ≤ n) = false := decide_eq_false (by omega)
    simp [this]
theorem within64_at (n a b : Int) (w : World) : Calls Tryz.prog 43 #[.int .i64 n, .int .i64 a, .int .i64 b] w fun e w' => e = .returned (.bool (decide (a ≤ n) && decide (n ≤ b))) ∧ w' = w := by
  go_enter Tryz.func43, Tryz.ntmps43
  go_wp2_with fail
  all_goals (go_ret; refine ⟨?_, rfl⟩)
  · have : decide (a ≤ n) = true := decide_eq_true (by assumption)
    simp [this]
  · have : decide (a ≤ n) = false := decide_eq_false (by omega)
    simp [this]
theorem rateMay_at (n : Int) (w : World) : Calls Tryz.prog 44 #[.int .i64 n] w fun e w' => e = .returned (.bool (decide (0 ≤ n) && decide (n ≤ 100000))) ∧ w' = w := by
  go_enter Tryz.func44, Tryz.ntmps44
  go_wp2_with fail
  refine (within64_at _ _ _ _).mono ?_
  rintro e w1 ⟨rfl, rfl⟩
  go_wp2_with fail
  go_ret
  exact ⟨rfl, rfl⟩
theorem countMay_at (n : Int) (w : World) : Calls Tryz.prog 45 #[.int .i64 n] w fun e w' => e = .returned (.bool (decide (1 ≤ n) && decide (n ≤ 120))) ∧ w' = w := by
  go_enter Tryz.func45, Tryz.ntmps45
  go_wp2_with fail
  refine (within_at _ _ _ _).mono ?_
  rintro e w1 ⟨rfl, rfl⟩
  go_wp2_with fail
  go_ret
  exact ⟨rfl, rfl⟩
end Go.Proofs.YtgdmkcbbomfmdaaGreatDoor

namespace Go.Proofs.YtgdmkcbbomfmdaaGreatDoor
open Go.RowKit
set_option maxRecDepth 20000 in
set_option maxHeartbeats 1000000 in
theorem planOf_at (DB : Nat) (cs : List Value) (kind P r n start rule : Int) (xs : List Int) (a : Option Addr) (cap : Nat) (w : World) (hA : TabA w) (hL : TabL w) (hS : SlOk w a xs) (hD : Blk DB 73 cs w) (hc : cs[17]? = some (.slice a xs.length cap)) :
    Calls Tryz.prog 29 #[.pointer (some ⟨DB, 0, none⟩), termsV kind P r n start rule] w fun e w' => Up w w' ∧
      ((∃ rs v, planO kind P r n start rule xs = some rs ∧ e = .returned v ∧ RowI w.heap.size w' v rs) ∨ (planO kind P r n start rule xs = none ∧ e = gaveUp 141)) := by
  have HA : Hid (TabA w) := hA
  have HL : Hid (TabL w) := hL
  have HS : Hid (SlOk w a xs) := hS
  obtain ⟨o, ho⟩ : ∃ o, planO kind P r n start rule xs = o := ⟨_, rfl⟩
  have PL : Hid (∀ w', Up w w' → Calls Tryz.prog 46 #[termsV kind P r n start rule, .slice a xs.length cap] w' fun e w2 => Up w' w2 ∧ PlanEnd w'.heap.size o e w2) := fun w' u => by
    rw [← ho]; exact plan_at kind P r n start rule xs a cap w' (HA.out.up u) (HL.out.up u) (HS.out.up u)
  have HN : Hid (∀ w', Calls Tryz.prog 26 #[.bool false, .int .i64 141] w' fun e w2 => e = .returned (.tuple #[]) ∧ w2 = w') := fun w' => refuse_no _ w'
  have HY : Hid (∀ w', Calls Tryz.prog 26 #[.bool true, .int .i64 141] w' fun e w2 => e = gaveUp 141 ∧ w2 = w') := fun w' => refuse_yes _ w'
  rw [ho]
  clear hA hL hS ho
  unfold termsV at *
  have U0 : Up w (w.alloc (.cells #[.int .i64 kind, .int .i64 P, .int .i64 r, .int .i64 n, .int .i64 start, .int .i64 rule] 26)) := (Up.refl w).alloc _
  have UU : Hid (Up w (w.alloc (.cells #[.int .i64 kind, .int .i64 P, .int .i64 r, .int .i64 n, .int .i64 start, .int .i64 rule] 26))) := U0
  have d17 := U0.cell (hD.cell 17 _ hc)
  have TB : Blk w.heap.size 26 [.int .i64 kind, .int .i64 P, .int .i64 r, .int .i64 n, .int .i64 start, .int .i64 rule] (w.alloc (.cells #[.int .i64 kind, .int .i64 P, .int .i64 r, .int .i64 n, .int .i64 start, .int .i64 rule] 26)) := Blk.new 26 [.int .i64 kind, .int .i64 P, .int .i64 r, .int .i64 n, .int .i64 start, .int .i64 rule] w
  have c0 := TB.cell 0 _ rfl
  have c1 := TB.cell 1 _ rfl
  have c2 := TB.cell 2 _ rfl
  have c3 := TB.cell 3 _ rfl
  have c4 := TB.cell 4 _ rfl
  have c5 := TB.cell 5 _ rfl
  clear TB hD hc U0 HA HL HS
  generalize xs.length = N at *
  go_enter Tryz.func29, Tryz.ntmps29
  go_upto_region 1 with fail
  generalize w.alloc (.cells #[.int .i64 kind, .int .i64 P, .int .i64 r, .int .i64 n, .int .i64 start, .int .i64 rule] 26) = w1 at *
  go_region_with (go_at_call 46; refine (PL.out _ (up_drewN UU.out _)).mono ?_; rintro e w2 ⟨U2, v1, rfl, A1⟩)
  all_goals
    have U12 : Up w1 w2 := (up_drewN (Up.refl w1) _).trans U2
    have UW : Hid (Up w w2) := UU.out.trans U12
    have AA : Hid (PlanAns w.heap.size w2 v1 o) := by
      cases o with
      | none => exact A1
      | some rs => exact RowI.mono A1 (by have := UU.out.size; simpa using this)
    clear U2 U12 A1 c0 c1 c2 c3 c4 c5 d17
    cases o with
    | none =>
      go_wp2_with fail
      refine (HY.out _).mono ?_
      rintro e w3 ⟨rfl, rfl⟩
      go_wp2_with fail
      exact ⟨rfl, UW.out, rfl⟩
    | some rs =>
      go_wp2_with fail
      refine (HN.out _).mono ?_
      rintro e w3 ⟨rfl, rfl⟩
      go_wp2_with fail
      go_ret
      exact ⟨UW.out, .inl ⟨rs, _, rfl, rfl, AA.out⟩⟩
end Go.Proofs.YtgdmkcbbomfmdaaGreatDoor
