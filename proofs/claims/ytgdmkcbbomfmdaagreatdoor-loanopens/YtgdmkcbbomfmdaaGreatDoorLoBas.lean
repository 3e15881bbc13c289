/-
  Ours: the work's ways of giving up: insist, refuseIf, granted; the bounds of terms; the reason of a panic.
-/
import Derived.Test.YtgdmkcbbomfmdaaGreatDoorLedOwn
import Derived.Defers
import Derived.Recover
namespace Go.Proofs.YtgdmkcbbomfmdaaGreatDoor
open Go.RowKit LedM
/-- The ending of a call that gave the whole up with the error k. -/
abbrev gaveUp (k : Int) : Ending := .panicked [{ v := .iface 39 (.int .i64 k), recovered := false }]
theorem insist_ok (w : World) : Calls Tryz.prog 25 #[.int .i64 0] w fun e w' => e = .returned (.tuple #[]) ∧ w' = w := by
  go_enter Tryz.func25, Tryz.ntmps25
  go_wp2_with fail
  first | go_end0 | refine bodyPost_ret (results_none rfl _ _ _) rfl ?_
  exact ⟨rfl, rfl⟩
theorem insist_no (k : Int) (hk : ¬ k = 0) (w : World) : Calls Tryz.prog 25 #[.int .i64 k] w fun e w' => e = gaveUp k ∧ w' = w := by
  have d : (k != 0) = true := by simpa using hk
  go_enter Tryz.func25, Tryz.ntmps25
  go_wp2_with fail
  exact ⟨rfl, rfl, rfl⟩
theorem refuse_no (k : Int) (w : World) : Calls Tryz.prog 26 #[.bool false, .int .i64 k] w fun e w' => e = .returned (.tuple #[]) ∧ w' = w := by
  go_enter Tryz.func26, Tryz.ntmps26
  go_wp2_with fail
  first | go_end0 | refine bodyPost_ret (results_none rfl _ _ _) rfl ?_
  exact ⟨rfl, rfl⟩
theorem refuse_yes (k : Int) (w : World) : Calls Tryz.prog 26 #[.bool true, .int .i64 k] w fun e w' => e = gaveUp k ∧ w' = w := by
  go_enter Tryz.func26, Tryz.ntmps26
  go_wp2_with fail
  exact ⟨rfl, rfl, rfl⟩
theorem run_errno (k : Int) (w : World) : (Instr.typeAssert (.iface 39 (.int .i64 k)) 20 39 true).run Tryz.prog w = .ok (.tuple #[.int .i64 k, .bool true]) w := by
  first | kernel_rfl | simp [Instr.typeAssert, go_sem, Tryz.underlying39]
theorem reason_at (k : Int) (w : World) : Calls Tryz.prog 23 #[.iface 39 (.int .i64 k)] w fun e w' => e = .returned (.int .i64 k) ∧ w' = w := by
  have hta := run_errno k
  go_enter Tryz.func23, Tryz.ntmps23
  go_wp2_with fail
  go_ret
  exact ⟨rfl, rfl⟩
theorem within_at (n a b : Int) (w : World) : Calls Tryz.prog 27 #[.int .i64 n, .int .i64 a, .int .i64 b] w fun e w' => e = .returned (.bool (decide (a ≤ n) && decide (n ≤ b))) ∧ w' = w := by
  go_enter Tryz.func27, Tryz.ntmps27
  go_wp2_with fail
  all_goals (go_ret; refine ⟨?_, rfl⟩)
  · have : decide (a ≤ n) = true := decide_eq_true (by assumption)
    simp [this]
  · have : decide (a ≤ n) = false := decide_eq_false (by omega)
    simp [this]
theorem within64_at (n a b : Int) (w : World) : Calls Tryz.prog 43 #[.int .i64 n, .int .i64 a, .int .i64 b] w fun e w' => e = .returned (.bool (decide (a ≤ n) && decide (n ≤ b))) ∧ w' = w := by
  go_enter Tryz.func43, Tryz.ntmps43
  go_wp2_with fail
  all_goals (go_ret; refine ⟨?_, rfl⟩)
  · have : decide (a ≤ n) = true := decide_eq_true (by assumption)
    simp [this]
  · have : decide (a ≤ n) = false := decide_eq_false (by omega)
    simp [this]
theorem rateMay_at (n : Int) (w : World) : Calls Tryz.prog 44 #[.int .i64 n] w fun e w' => e = .returned (.bool (decide (0 ≤ n) && decide (n ≤ 100000))) ∧ w' = w := by
  go_enter Tryz.func44, Tryz.ntmps44
  go_wp2_with fail
  refine (within64_at _ _ _ _).mono ?_
  rintro e w1 ⟨rfl, rfl⟩
  go_wp2_with fail
  go_ret
  exact ⟨rfl, rfl⟩
theorem countMay_at (n : Int) (w : World) : Calls Tryz.prog 45 #[.int .i64 n] w fun e w' => e = .returned (.bool (decide (1 ≤ n) && decide (n ≤ 120))) ∧ w' = w := by
  go_enter Tryz.func45, Tryz.ntmps45
  go_wp2_with fail
  refine (within_at _ _ _ _).mono ?_
  rintro e w1 ⟨rfl, rfl⟩
  go_wp2_with fail
  go_ret
  exact ⟨rfl, rfl⟩
end Go.Proofs.YtgdmkcbbomfmdaaGreatDoor
