/-
  Ours: the walk of InterestNearest.
-/
import Derived.Test.YtkabfdajpilomaaIntMon
namespace Go.Proofs.Ytkabfdajpilomaa
open Go.RowKit IntM

set_option maxHeartbeats 400000 in
theorem near_walk (b : Int) (b0 : -9223372036854775808 ≤ b) (b1 : b ≤ 9223372036854775807) (r : Int) (r0 : -9223372036854775808 ≤ r) (r1 : r ≤ 9223372036854775807) (w : World) :
    Calls Try.prog 5 #[.int .i64 b, .int .i64 r] w fun e w' => e = .returned (.bool true) ∧ Grown w w' := by
  have EA : Hid (∀ w, Calls Try.prog 9 #[.int .i64 b, .int .i64 r, .int .i64 0] w fun e w' => e = .returned (.bool (earnB b r 0)) ∧ w' = w) := fun w => earning_at b r 0 _ rfl w
  cases he : earnB b r 0
  · rw [he] at EA
    go_enter Try.func5, Try.ntmps5
    go_wp2_with fail
    refine (EA.out _).mono ?_
    rintro e w1 ⟨rfl, hw⟩; rw [hw]; clear hw w1
    go_wp2_with fail
    go_ret
    exact ⟨rfl, Grown.refl w⟩
  · rw [he] at EA
    have he := of_decide_eq_true he
    by_cases hb : b ≤ 10000000000000
    · have M := fun w => month_at b r (by omega) b1 (by omega) (by omega) w
      have m0 := mon_nonneg (b := b) (r := r) (by omega) (by omega)
      have m1 := mon_le (b := b) (r := r) (by omega) (by omega)
      have n0 : 0 ≤ b * r := Int.mul_nonneg (by omega) (by omega)
      have n1 : b * r ≤ 1000000000000000000 := by
        have := Int.mul_le_mul hb (by omega : r ≤ 100000) (by omega) (by omega)
        omega
      have nr := rd_near (b * r)
      simp only [] at nr
      change (2 * (mon b r * 120000 - b * r) < 120000 ∧ -120000 < 2 * (mon b r * 120000 - b * r)) ∨ ((2 * (mon b r * 120000 - b * r) = 120000 ∨ 2 * (mon b r * 120000 - b * r) = -120000) ∧ mon b r % 2 = 0) at nr
      generalize mon b r = m at *
      have MM : Hid (∀ w, Calls Try.prog 12 #[.int .i64 b, .int .i64 r] w fun e w' => e = .returned (.tuple #[.int .i64 m, .bool true]) ∧ ∃ n, w' = w.drewN n) := M
      clear M
      generalize hx : b * r = x at *
      go_enter Try.func5, Try.ntmps5
      go_wp2_with fail
      refine (EA.out _).mono ?_
      rintro e w1 ⟨rfl, hw⟩; rw [hw]; clear hw w1
      go_wp2_with fail
      refine (MM.out _).mono ?_
      rintro e w1 ⟨rfl, n1, hw⟩; rw [hw]; clear hw w1
      try rw [hx]
      go_wp2_with fail
      all_goals first
        | (exfalso
           omega)
        | (exfalso
           simp only [beq_iff_eq, beq_eq_false_iff_ne] at *
           omega)
        | (go_ret
           exact ⟨rfl, Grown.refl w⟩)
        | (go_ret
           refine ⟨ret_boolI ?_, Grown.refl w⟩
           simp
           first
             | omega
             | (simp only [beq_iff_eq, beq_eq_false_iff_ne] at *
                omega))
    · go_enter Try.func5, Try.ntmps5
      go_wp2_with fail
      refine (EA.out _).mono ?_
      rintro e w1 ⟨rfl, hw⟩; rw [hw]; clear hw w1
      go_wp2_with fail
      go_ret
      exact ⟨rfl, Grown.refl w⟩
end Go.Proofs.Ytkabfdajpilomaa
