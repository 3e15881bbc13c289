/-
  Ours: the reference's Span, Daily, month, Month; the walks of InterestSpans and InterestMonths.
-/
import Derived.Test.YtkabfdajpilomaaIntMon
namespace Go.Proofs.Ytkabfdajpilomaa
open Go.RowKit IntM

theorem refRate_at (x : Int) (b : Bool) (h : rateB x = b) (w : World) :
    Calls Try.prog 24 #[.int .i64 x] w fun e w' => e = .returned (.bool b) ∧ w' = w := by
  subst h
  unfold rateB
  go_enter Try.func24, Try.ntmps24
  go_wp2_with fail
  all_goals
    go_ret
    refine ⟨ret_boolI ?_, rfl⟩
    rw [Bool.eq_iff_iff]
    simp
    try omega

theorem small_prod {x r : Int} {X : Int} (x0 : 0 ≤ x) (x1 : x ≤ X) (r0 : 0 ≤ r) (r1 : r ≤ 100000) : 0 ≤ x * r ∧ x * r ≤ X * 100000 :=
  ⟨Int.mul_nonneg x0 r0, Int.mul_le_mul x1 r1 r0 (by omega)⟩

theorem rd_spec (n : Int) : ((120000 < 2 * (n % 120000) ∨ (2 * (n % 120000) = 120000 ∧ n / 120000 % 2 = 1)) ∧ rd n = n / 120000 + 1) ∨ (¬ (120000 < 2 * (n % 120000) ∨ (2 * (n % 120000) = 120000 ∧ n / 120000 % 2 = 1)) ∧ rd n = n / 120000) := by
  unfold rd; split
  · left; exact ⟨by assumption, rfl⟩
  · right; exact ⟨by assumption, rfl⟩

set_option maxHeartbeats 400000 in
theorem refmonth_at (b r : Int) (b0 : 0 ≤ b) (b1 : b ≤ 9223372036854775807) (r0 : 0 ≤ r) (r1 : r ≤ 100000) (w : World) :
    Calls Try.prog 25 #[.int .i64 b, .int .i64 r] w fun e w' => e = .returned (.int .i64 (mon b r)) ∧ w' = w := by
  have hp := mon_parts b r
  have hm := mon_le (r := r) b0 r1
  obtain ⟨x0, x1⟩ := small_prod (x := b / 120000) (X := 76861433640456) (by omega) (by omega) r0 r1
  obtain ⟨y0, y1⟩ := small_prod (x := b % 120000) (X := 119999) (by omega) (by omega) r0 r1
  have hs := rd_spec (b * r)
  unfold mon at *
  generalize rd (b * r) = M at *
  rw [hp] at hs
  clear hp
  go_enter Try.func25, Try.ntmps25
  generalize hX : b / 120000 * r = X at *
  generalize hY : b % 120000 * r = Y at *
  go_wp2_with fail
  all_goals
    go_ret
    refine ⟨ret_int ?_, rfl⟩
    try simp only [beq_iff_eq, beq_eq_false_iff_ne] at *
    omega

theorem refMonth_at (b r : Int) (b0 : 0 ≤ b) (b1 : b ≤ 9223372036854775807) (r0 : 0 ≤ r) (r1 : r ≤ 100000) (w : World) :
    Calls Try.prog 14 #[.int .i64 b, .int .i64 r] w fun e w' => e = .returned (.tuple #[.int .i64 (mon b r), .bool true]) ∧ w' = w := by
  have IR : Hid (∀ w, Calls Try.prog 24 #[.int .i64 r] w fun e w' => e = .returned (.bool true) ∧ w' = w) := fun w => refRate_at r true (decide_eq_true ⟨r0, r1⟩) w
  have NN : Hid (∀ w, Calls Try.prog 25 #[.int .i64 b, .int .i64 r] w fun e w' => e = .returned (.int .i64 (mon b r)) ∧ w' = w) := fun w => refmonth_at b r b0 b1 r0 r1 w
  generalize mon b r = m at *
  go_enter Try.func14, Try.ntmps14
  go_wp2_with fail
  refine (IR.out _).mono ?_
  rintro e w1 ⟨rfl, hw⟩; rw [hw]; clear hw w1
  go_wp2_with fail
  refine (NN.out _).mono ?_
  rintro e w1 ⟨rfl, hw⟩; rw [hw]; clear hw w1
  go_wp2_with fail
  go_ret2
  exact ⟨rfl, rfl⟩

theorem refMonth_no (b r : Int) (h : ¬ (0 ≤ b ∧ 0 ≤ r ∧ r ≤ 100000)) (w : World) :
    Calls Try.prog 14 #[.int .i64 b, .int .i64 r] w fun e w' => e = .returned (.tuple #[.int .i64 0, .bool false]) ∧ w' = w := by
  by_cases hb : 0 ≤ b
  · have IR : Hid (∀ w, Calls Try.prog 24 #[.int .i64 r] w fun e w' => e = .returned (.bool false) ∧ w' = w) := fun w => refRate_at r false (decide_eq_false (by omega)) w
    clear h
    go_enter Try.func14, Try.ntmps14
    go_wp2_with fail
    refine (IR.out _).mono ?_
    rintro e w1 ⟨rfl, hw⟩; rw [hw]; clear hw w1
    go_wp2_with fail
    go_ret2
    exact ⟨rfl, rfl⟩
  · clear h
    go_enter Try.func14, Try.ntmps14
    go_wp2_with fail
    go_ret2
    exact ⟨rfl, rfl⟩

theorem months_walk (b : Int) (_ : -9223372036854775808 ≤ b) (b1 : b ≤ 9223372036854775807) (r : Int) (_ : -9223372036854775808 ≤ r) (_ : r ≤ 9223372036854775807) (w : World) :
    Calls Try.prog 7 #[.int .i64 b, .int .i64 r] w fun e w' => e = .returned (.bool true) ∧ Grown w w' := by
  by_cases h : 0 ≤ b ∧ 0 ≤ r ∧ r ≤ 100000
  · obtain ⟨h1, h2, h3⟩ := h
    have RM := fun w => refMonth_at b r h1 b1 h2 h3 w
    have M := fun w => month_at b r h1 b1 h2 h3 w
    generalize mon b r = m at *
    have RR : Hid (∀ w, Calls Try.prog 14 #[.int .i64 b, .int .i64 r] w fun e w' => e = .returned (.tuple #[.int .i64 m, .bool true]) ∧ w' = w) := RM
    have MM : Hid (∀ w, Calls Try.prog 12 #[.int .i64 b, .int .i64 r] w fun e w' => e = .returned (.tuple #[.int .i64 m, .bool true]) ∧ ∃ n, w' = w.drewN n) := M
    clear RM M
    go_enter Try.func7, Try.ntmps7
    go_wp2_with fail
    refine (MM.out _).mono ?_
    rintro e w1 ⟨rfl, n1, hw⟩; rw [hw]; clear hw w1
    go_wp2_with fail
    refine (RR.out _).mono ?_
    rintro e w1 ⟨rfl, hw⟩; rw [hw]; clear hw w1
    go_wp2_with fail
    go_ret
    exact ⟨rfl, Grown.refl w⟩
  · have RR : Hid (∀ w, Calls Try.prog 14 #[.int .i64 b, .int .i64 r] w fun e w' => e = .returned (.tuple #[.int .i64 0, .bool false]) ∧ w' = w) := fun w => refMonth_no b r h w
    have MM : Hid (∀ w, Calls Try.prog 12 #[.int .i64 b, .int .i64 r] w fun e w' => e = .returned (.tuple #[.int .i64 0, .bool false]) ∧ w' = w) := fun w => month_no b r h w
    clear h
    go_enter Try.func7, Try.ntmps7
    go_wp2_with fail
    refine (MM.out _).mono ?_
    rintro e w1 ⟨rfl, hw⟩; rw [hw]; clear hw w1
    go_wp2_with fail
    refine (RR.out _).mono ?_
    rintro e w1 ⟨rfl, hw⟩; rw [hw]; clear hw w1
    go_wp2_with fail
    go_ret
    exact ⟨rfl, Grown.refl w⟩
end Go.Proofs.Ytkabfdajpilomaa
