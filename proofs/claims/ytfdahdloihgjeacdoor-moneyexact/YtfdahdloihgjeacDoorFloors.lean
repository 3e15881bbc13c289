/-
  Ours: the law MoneyFloors walked.
-/
import Derived.Test.YtfdahdloihgjeacDoorRefFloor
namespace Go.Proofs.YtfdahdloihgjeacDoor
open Go.RowKit

set_option maxHeartbeats 400000 in
theorem floors_any (a b c : Int) (a0 : -9223372036854775808 ≤ a) (a1 : a ≤ 9223372036854775807) (b0 : -9223372036854775808 ≤ b) (b1 : b ≤ 9223372036854775807) (c0 : -9223372036854775808 ≤ c) (c1 : c ≤ 9223372036854775807) (w : World) :
    Calls Tryd.prog 9 #[.int .i64 a, .int .i64 b, .int .i64 c] w fun e w' => e = .returned (.bool true) ∧ Below w.heap.size w w' := by
  have D := fun w => floor_any a b c a0 a1 b0 b1 c0 c1 w
  have E := fun w => rfloor_any a b c a0 a1 b0 b1 c0 c1 w
  generalize flQ a b c = V at *
  generalize flR a b c = S at *
  generalize flOk a b c = K at *
  have e1 : (V == V) = true := by simp
  have e2 : (S == S) = true := by simp
  have e3 : (K == K) = true := by simp
  have DD : Hid (∀ w, Calls Tryd.prog 28 #[.int .i64 a, .int .i64 b, .int .i64 c] w fun e w' => e = .returned (.tuple #[.int .i64 V, .int .i64 S, .bool K]) ∧ ∃ n, w' = w.drewN n) := D
  have EE : Hid (∀ w, Calls Tryd.prog 29 #[.int .i64 a, .int .i64 b, .int .i64 c] w fun e w' => e = .returned (.tuple #[.int .i64 V, .int .i64 S, .bool K]) ∧ Below w.heap.size w w') := E
  clear D E
  go_enter Tryd.func9, Tryd.ntmps9
  go_wp2_with fail
  refine (DD.out _).mono ?_
  rintro e w1 ⟨rfl, n, hw⟩; rw [hw]; clear hw w1
  go_wp2_with fail
  refine (EE.out _).mono ?_
  rintro e w1 ⟨rfl, bb⟩
  go_wp2_with fail
  go_ret
  exact ⟨rfl, below2 (below_draws w n) bb⟩

end Go.Proofs.YtfdahdloihgjeacDoor
