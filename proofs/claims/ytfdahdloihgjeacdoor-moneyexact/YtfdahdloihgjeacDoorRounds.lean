/-
  Ours: the law MoneyRounds walked.
-/
import Derived.Test.YtfdahdloihgjeacDoorRefNear
namespace Go.Proofs.YtfdahdloihgjeacDoor
open Go.RowKit

set_option maxHeartbeats 400000 in
theorem rounds_any (a b c : Int) (a0 : -9223372036854775808 ≤ a) (a1 : a ≤ 9223372036854775807) (b0 : -9223372036854775808 ≤ b) (b1 : b ≤ 9223372036854775807) (c0 : -9223372036854775808 ≤ c) (c1 : c ≤ 9223372036854775807) (w : World) :
    Calls Tryd.prog 8 #[.int .i64 a, .int .i64 b, .int .i64 c] w fun e w' => e = .returned (.bool true) ∧ Below w.heap.size w w' := by
  have D := fun w => near_any a b c a0 a1 b0 b1 c0 c1 w
  have E := fun w => rnear_any a b c a0 a1 b0 b1 c0 c1 w
  have F := fun w => near_any a b 10000 a0 a1 b0 b1 (by omega) (by omega) w
  have G := fun w => rnear_any a b 10000 a0 a1 b0 b1 (by omega) (by omega) w
  generalize mdV a b c = V at *
  generalize mdOk a b c = K at *
  generalize mdV a b 10000 = X at *
  generalize mdOk a b 10000 = L at *
  have e1 : (V != V) = false := by simp
  have e2 : (K != K) = false := by simp
  have e3 : (X == X) = true := by simp
  have e4 : (L == L) = true := by simp
  have DD : Hid (∀ w, Calls Tryd.prog 24 #[.int .i64 a, .int .i64 b, .int .i64 c] w fun e w' => e = .returned (.tuple #[.int .i64 V, .bool K]) ∧ ∃ n, w' = w.drewN n) := D
  have EE : Hid (∀ w, Calls Tryd.prog 25 #[.int .i64 a, .int .i64 b, .int .i64 c] w fun e w' => e = .returned (.tuple #[.int .i64 V, .bool K]) ∧ Below w.heap.size w w') := E
  have FF : Hid (∀ w, Calls Tryd.prog 24 #[.int .i64 a, .int .i64 b, .int .i64 10000] w fun e w' => e = .returned (.tuple #[.int .i64 X, .bool L]) ∧ ∃ n, w' = w.drewN n) := F
  have GG : Hid (∀ w, Calls Tryd.prog 25 #[.int .i64 a, .int .i64 b, .int .i64 10000] w fun e w' => e = .returned (.tuple #[.int .i64 X, .bool L]) ∧ Below w.heap.size w w') := G
  clear D E F G
  have BP : Hid (∀ w, Calls Tryd.prog 26 #[.int .i64 a, .int .i64 b] w fun e w' => e = .returned (.tuple #[.int .i64 X, .bool L]) ∧ ∃ n, w' = w.drewN n) := by
    intro w
    go_enter Tryd.func26, Tryd.ntmps26
    go_wp2_with fail
    refine (FF.out _).mono ?_
    rintro e w1 ⟨rfl, n, hw⟩; rw [hw]; clear hw w1
    go_wp2_with fail
    go_ret2
    exact ⟨rfl, _, rfl⟩
  have BR : Hid (∀ w, Calls Tryd.prog 27 #[.int .i64 a, .int .i64 b] w fun e w' => e = .returned (.tuple #[.int .i64 X, .bool L]) ∧ Below w.heap.size w w') := by
    intro w
    go_enter Tryd.func27, Tryd.ntmps27
    go_wp2_with fail
    refine (GG.out _).mono ?_
    rintro e w1 ⟨rfl, bb⟩
    go_wp2_with fail
    go_ret2
    exact ⟨rfl, bb⟩
  clear FF GG
  go_enter Tryd.func8, Tryd.ntmps8
  go_wp2_with fail
  refine (DD.out _).mono ?_
  rintro e w1 ⟨rfl, n, hw⟩; rw [hw]; clear hw w1
  go_wp2_with fail
  refine (EE.out _).mono ?_
  rintro e w1 ⟨rfl, bb⟩
  have bb1 := below2 (below_draws w n) bb
  clear bb
  go_wp2_with fail
  refine (BP.out _).mono ?_
  rintro e w2 ⟨rfl, n2, hw⟩; rw [hw]; clear hw w2
  go_wp2_with fail
  refine (BR.out _).mono ?_
  rintro e w2 ⟨rfl, bb⟩
  have bb2 := below2 bb1 (below2 (below_draws w1 n2) bb)
  clear bb
  go_wp2_with fail
  go_ret
  exact ⟨rfl, bb2⟩

end Go.Proofs.YtfdahdloihgjeacDoor
