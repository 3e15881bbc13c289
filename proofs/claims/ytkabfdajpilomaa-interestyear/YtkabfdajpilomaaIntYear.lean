/-
  Ours: the walk of InterestYear.
-/
import Derived.Test.YtkabfdajpilomaaIntTwo
namespace Go.Proofs.Ytkabfdajpilomaa
open Go.RowKit IntM

namespace Year
theorem core (P r : Int) : cnt P r 365 0 / 3650000 = P * r / 10000 ∧ cnt P r 365 0 % 3650000 = P * r % 10000 * 365 := by
  unfold cnt
  have e : P * (r * 365) = P * r * 365 := (Int.mul_assoc _ _ _).symm
  rw [e]
  generalize P * r = x
  omega
theorem one : cnt 1234567 1000 365 0 / 3650000 = 123456 ∧ cnt 1234567 1000 365 0 % 3650000 = 2555000 := by decide
end Year

set_option maxHeartbeats 400000 in
theorem year_walk (P : Int) (P0 : -9223372036854775808 ≤ P) (P1 : P ≤ 9223372036854775807) (r : Int) (r0 : -9223372036854775808 ≤ r) (r1 : r ≤ 9223372036854775807) (w : World) :
    Calls Try.prog 4 #[.int .i64 P, .int .i64 r] w fun e w' => e = .returned (.bool true) ∧ Grown w w' := by
  have EA : Hid (∀ w, Calls Try.prog 9 #[.int .i64 P, .int .i64 r, .int .i64 0] w fun e w' => e = .returned (.bool (earnB P r 0)) ∧ w' = w) := fun w => earning_at P r 0 _ rfl w
  cases he : earnB P r 0
  · rw [he] at EA
    go_enter Try.func4, Try.ntmps4
    go_wp2_with fail
    refine (EA.out _).mono ?_
    rintro e w1 ⟨rfl, hw⟩; rw [hw]; clear hw w1
    go_wp2_with fail
    go_ret
    exact ⟨rfl, Grown.refl w⟩
  · rw [he] at EA
    have he := of_decide_eq_true he
    have O := fun w => span_yes 1234567 1000 0 365 (by unfold spGood; omega) (by omega) (by rw [Year.one.1]; omega) w
    rw [Year.one.1, Year.one.2] at O
    have OO : Hid (∀ w, Calls Try.prog 10 #[.int .i64 1234567, .int .i64 1000, .int .i64 0, .int .i64 365] w fun e w' => e = .returned (.tuple #[.int .i64 123456, .int .i64 2555000, .bool true]) ∧ ∃ n, w' = w.drewN n) := O
    clear O
    obtain ⟨c1, c2⟩ := Year.core P r
    have nn : 0 ≤ P * r := Int.mul_nonneg (by omega) (by omega)
    have g : spGood P r 0 365 := by unfold spGood; omega
    have F := fun w => floor_any P r 10000 P0 P1 r0 r1 (by omega) (by omega) w
    by_cases hf : P * r / 10000 ≤ 9223372036854775807
    · have f1 : flOk P r 10000 = true := by unfold flOk; rw [decide_eq_true_iff]; omega
      rw [f1] at F
      simp only [flQ, flR, f1, if_true] at F
      have S := fun w => span_yes P r 0 365 g P1 (by rw [c1]; exact hf) w
      rw [c1, c2] at S
      have q0 : 0 ≤ P * r / 10000 := by omega
      have l0 : 0 ≤ P * r % 10000 := by omega
      have l1 : P * r % 10000 < 10000 := by omega
      generalize P * r / 10000 = q at *
      generalize P * r % 10000 = l at *
      have FF : Hid (∀ w, Calls Try.prog 11 #[.int .i64 P, .int .i64 r, .int .i64 10000] w fun e w' => e = .returned (.tuple #[.int .i64 q, .int .i64 l, .bool true]) ∧ ∃ n, w' = w.drewN n) := F
      have SS : Hid (∀ w, Calls Try.prog 10 #[.int .i64 P, .int .i64 r, .int .i64 0, .int .i64 365] w fun e w' => e = .returned (.tuple #[.int .i64 q, .int .i64 (l * 365), .bool true]) ∧ ∃ n, w' = w.drewN n) := S
      clear F S c1 c2 g
      go_enter Try.func4, Try.ntmps4
      go_wp2_with fail
      refine (EA.out _).mono ?_
      rintro e w1 ⟨rfl, hw⟩; rw [hw]; clear hw w1
      go_wp2_with fail
      refine (OO.out _).mono ?_
      rintro e w1 ⟨rfl, n1, hw⟩; rw [hw]; clear hw w1
      go_wp2_with fail
      refine (SS.out _).mono ?_
      rintro e w1 ⟨rfl, n2, hw⟩; rw [hw]; clear hw w1
      go_wp2_with fail
      refine (FF.out _).mono ?_
      rintro e w1 ⟨rfl, n3, hw⟩; rw [hw]; clear hw w1
      go_wp2_with fail
      go_ret
      exact ⟨rfl, Grown.refl w⟩
    · have f1 : flOk P r 10000 = false := by unfold flOk; rw [decide_eq_false_iff_not]; omega
      rw [f1] at F
      simp only [flQ, flR, f1, Bool.false_eq_true, if_false] at F
      have S := fun w => span_big P r 0 365 g P1 (by rw [c1]; omega) w
      have FF : Hid (∀ w, Calls Try.prog 11 #[.int .i64 P, .int .i64 r, .int .i64 10000] w fun e w' => e = .returned (.tuple #[.int .i64 0, .int .i64 0, .bool false]) ∧ ∃ n, w' = w.drewN n) := F
      have SS : Hid (∀ w, Calls Try.prog 10 #[.int .i64 P, .int .i64 r, .int .i64 0, .int .i64 365] w fun e w' => e = .returned (.tuple #[.int .i64 0, .int .i64 0, .bool false]) ∧ ∃ n, w' = w.drewN n) := S
      clear F S c1 c2 g
      go_enter Try.func4, Try.ntmps4
      go_wp2_with fail
      refine (EA.out _).mono ?_
      rintro e w1 ⟨rfl, hw⟩; rw [hw]; clear hw w1
      go_wp2_with fail
      refine (OO.out _).mono ?_
      rintro e w1 ⟨rfl, n1, hw⟩; rw [hw]; clear hw w1
      go_wp2_with fail
      refine (SS.out _).mono ?_
      rintro e w1 ⟨rfl, n2, hw⟩; rw [hw]; clear hw w1
      go_wp2_with fail
      refine (FF.out _).mono ?_
      rintro e w1 ⟨rfl, n3, hw⟩; rw [hw]; clear hw w1
      go_wp2_with fail
      go_ret
      exact ⟨rfl, Grown.refl w⟩
end Go.Proofs.Ytkabfdajpilomaa
