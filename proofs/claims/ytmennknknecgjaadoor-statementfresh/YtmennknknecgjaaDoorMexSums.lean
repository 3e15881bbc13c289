/-
  Ours: the sums of MoneyExact: money.Sub and the reference's Add and Sub.
-/
import Derived.Test.YtmennknknecgjaaDoorAdd1
import Derived.Test.YtmennknknecgjaaDoorRefSum
namespace Go.Proofs.YtmennknknecgjaaDoor
open Go.RowKit

theorem rsub_any (a b : Int) (a0 : -9223372036854775808 ≤ a) (a1 : a ≤ 9223372036854775807) (b0 : -9223372036854775808 ≤ b) (b1 : b ≤ 9223372036854775807) (w : World) :
    Calls Tryd.prog 28 #[.int .i64 a, .int .i64 b] w fun e w' => e = .returned (.tuple #[.int .i64 (smV (a - b)), .bool (smOk (a - b))]) ∧ w' = w := by
  have HA : Hid (∀ w, Calls Tryd.prog 43 #[.int .i64 a] w fun e w' => e = .returned (.int .i64 (a / 4294967296)) ∧ w' = w) := fun w => high_any a w
  have HB : Hid (∀ w, Calls Tryd.prog 43 #[.int .i64 b] w fun e w' => e = .returned (.int .i64 (b / 4294967296)) ∧ w' = w) := fun w => high_any b w
  have LA : Hid (∀ w, Calls Tryd.prog 44 #[.int .i64 a] w fun e w' => e = .returned (.int .i64 (a % 4294967296)) ∧ w' = w) := fun w => lowOf_any a a0 a1 w
  have LB : Hid (∀ w, Calls Tryd.prog 44 #[.int .i64 b] w fun e w' => e = .returned (.int .i64 (b % 4294967296)) ∧ w' = w) := fun w => lowOf_any b b0 b1 w
  have JN : Hid (∀ w, Calls Tryd.prog 42 #[.int .i64 (a / 4294967296 - b / 4294967296), .int .i64 (a % 4294967296 - b % 4294967296)] w fun e w' => e = .returned (.tuple #[.int .i64 (smV (a - b)), .bool (smOk (a - b))]) ∧ w' = w) := fun w => by
    have := joined_any (a / 4294967296 - b / 4294967296) (a % 4294967296 - b % 4294967296) (by omega) (by omega) (by omega) (by omega) w
    rw [show (a / 4294967296 - b / 4294967296) * 4294967296 + (a % 4294967296 - b % 4294967296) = a - b by omega] at this
    exact this
  have q0 : -2147483648 ≤ a / 4294967296 := by omega
  have q1 : a / 4294967296 ≤ 2147483647 := by omega
  have q2 : -2147483648 ≤ b / 4294967296 := by omega
  have q3 : b / 4294967296 ≤ 2147483647 := by omega
  have q4 : 0 ≤ a % 4294967296 := by omega
  have q5 : a % 4294967296 ≤ 4294967295 := by omega
  have q6 : 0 ≤ b % 4294967296 := by omega
  have q7 : b % 4294967296 ≤ 4294967295 := by omega
  generalize smV (a - b) = V at *
  generalize smOk (a - b) = K at *
  generalize a / 4294967296 = ha at *
  generalize b / 4294967296 = hb at *
  generalize a % 4294967296 = la at *
  generalize b % 4294967296 = lb at *
  go_enter Tryd.func28, Tryd.ntmps28
  go_wp2_with fail
  refine (HA.out _).mono ?_
  rintro e w1 ⟨rfl, hw⟩; rw [hw]; clear hw w1
  go_wp2_with fail
  refine (HB.out _).mono ?_
  rintro e w1 ⟨rfl, hw⟩; rw [hw]; clear hw w1
  go_wp2_with fail
  refine (LA.out _).mono ?_
  rintro e w1 ⟨rfl, hw⟩; rw [hw]; clear hw w1
  go_wp2_with fail
  refine (LB.out _).mono ?_
  rintro e w1 ⟨rfl, hw⟩; rw [hw]; clear hw w1
  go_wp2_with fail
  refine (JN.out _).mono ?_
  rintro e w1 ⟨rfl, hw⟩; rw [hw]; clear hw w1
  go_wp2_with fail
  go_ret2
  exact ⟨rfl, rfl⟩
end Go.Proofs.YtmennknknecgjaaDoor
