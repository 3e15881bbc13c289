/-
  Ours: the reference's isRate and month.
-/
import Derived.Test.YtkabfdajpilomabDoorIntMon
namespace Go.Proofs.YtkabfdajpilomabDoor
open Go.RowKit IntM

theorem refRate_at (x : Int) (b : Bool) (h : rateB x = b) (w : World) :
    Calls Tryd.prog 50 #[.int .i64 x] w fun e w' => e = .returned (.bool b) ∧ w' = w := by
  subst h
  unfold rateB
  go_enter Tryd.func50, Tryd.ntmps50
  go_wp2_with fail
  all_goals
    go_ret
    refine ⟨ret_boolI ?_, rfl⟩
    rw [Bool.eq_iff_iff]
    simp
    try omega

theorem small_prod {x r : Int} {X : Int} (x0 : 0 ≤ x) (x1 : x ≤ X) (r0 : 0 ≤ r) (r1 : r ≤ 100000) : 0 ≤ x * r ∧ x * r ≤ X * 100000 :=
  ⟨Int.mul_nonneg x0 r0, Int.mul_le_mul x1 r1 r0 (by omega)⟩

theorem rd_spec (n : Int) : ((120000 < 2 * (n % 120000) ∨ (2 * (n % 120000) = 120000 ∧ n / 120000 % 2 = 1)) ∧ rd n = n / 120000 + 1) ∨ (¬ (120000 < 2 * (n % 120000) ∨ (2 * (n % 120000) = 120000 ∧ n / 120000 % 2 = 1)) ∧ rd n = n / 120000) := by
  unfold rd; split
  · left; exact ⟨by assumption, rfl⟩
  · right; exact ⟨by assumption, rfl⟩

set_option maxHeartbeats 400000 in
theorem refmonth_at (b r : Int) (b0 : 0 ≤ b) (b1 : b ≤ 9223372036854775807) (r0 : 0 ≤ r) (r1 : r ≤ 100000) (w : World) :
    Calls Tryd.prog 35 #[.int .i64 b, .int .i64 r] w fun e w' => e = .returned (.int .i64 (mon b r)) ∧ w' = w := by
  have hp := mon_parts b r
  have hm := mon_le (r := r) b0 r1
  obtain ⟨x0, x1⟩ := small_prod (x := b / 120000) (X := 76861433640456) (by omega) (by omega) r0 r1
  obtain ⟨y0, y1⟩ := small_prod (x := b % 120000) (X := 119999) (by omega) (by omega) r0 r1
  have hs := rd_spec (b * r)
  unfold mon at *
  generalize rd (b * r) = M at *
  rw [hp] at hs
  clear hp
  go_enter Tryd.func35, Tryd.ntmps35
  generalize hX : b / 120000 * r = X at *
  generalize hY : b % 120000 * r = Y at *
  go_wp2_with fail
  all_goals
    go_ret
    refine ⟨ret_int ?_, rfl⟩
    try simp only [beq_iff_eq, beq_eq_false_iff_ne] at *
    omega

end Go.Proofs.YtkabfdajpilomabDoor
