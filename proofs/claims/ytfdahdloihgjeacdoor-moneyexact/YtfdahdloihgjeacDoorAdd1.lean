/-
  Ours: the contract of money.Add.
-/
import Derived.Test.YtfdahdloihgjeacDoorSum
namespace Go.Proofs.YtfdahdloihgjeacDoor
open Go.RowKit

/-- money.Add: the exact sum of two, if it fits. -/
theorem add_any (a b : Int) (a0 : -9223372036854775808 ≤ a) (a1 : a ≤ 9223372036854775807) (b0 : -9223372036854775808 ≤ b) (b1 : b ≤ 9223372036854775807) (w : World) :
    Calls Tryd.prog 4 #[.int .i64 a, .int .i64 b] w fun e w' => e = .returned (.tuple #[.int .i64 (smV (a + b)), .bool (smOk (a + b))]) ∧ w' = w := by
  by_cases hs : -9223372036854775808 ≤ a + b ∧ a + b ≤ 9223372036854775807
  · have e1 : smOk (a + b) = true := decide_eq_true hs
    have e2 : smV (a + b) = a + b := by simp [smV, e1]
    rw [e1, e2]
    clear e1 e2
    obtain ⟨h0, h1⟩ := hs
    by_cases hb : b < 0
    · have d1 : decide (a + b < a) = true := decide_eq_true (by omega)
      have d2 : decide (b < 0) = true := decide_eq_true hb
      go_enter Tryd.func4, Tryd.ntmps4
      go_wp2
      go_ret2
      exact ⟨rfl, rfl⟩
    · have d1 : decide (a + b < a) = false := decide_eq_false (by omega)
      have d2 : decide (b < 0) = false := decide_eq_false hb
      go_enter Tryd.func4, Tryd.ntmps4
      go_wp2
      go_ret2
      exact ⟨rfl, rfl⟩
  · have e1 : smOk (a + b) = false := decide_eq_false hs
    have e2 : smV (a + b) = 0 := by simp [smV, e1]
    rw [e1, e2]
    clear e1 e2
    by_cases hb : b < 0
    · have ew : wrap64 (a + b) = a + b + 18446744073709551616 := by unfold wrap64; omega
      have d : decide (wrap64 (a + b) < a) = false := by rw [ew]; simp; omega
      have d2 : decide (b < 0) = true := decide_eq_true hb
      clear hs ew
      go_enter Tryd.func4, Tryd.ntmps4
      go_wp2
      go_ret2
      exact ⟨rfl, rfl⟩
    · have ew : wrap64 (a + b) = a + b - 18446744073709551616 := by unfold wrap64; omega
      have d : decide (wrap64 (a + b) < a) = true := by rw [ew]; simp; omega
      have d2 : decide (b < 0) = false := decide_eq_false hb
      clear hs ew
      go_enter Tryd.func4, Tryd.ntmps4
      go_wp2
      go_ret2
      exact ⟨rfl, rfl⟩

end Go.Proofs.YtfdahdloihgjeacDoor
