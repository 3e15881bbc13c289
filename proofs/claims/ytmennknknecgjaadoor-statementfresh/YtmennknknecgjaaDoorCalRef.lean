/-
  Ours: contracts of the document's own calendar: divides, Leap, lenOf, MonthLen, yearLen, Number.
-/
import Derived.Test.YtmennknknecgjaaDoorCalNum
namespace Go.Proofs.YtmennknknecgjaaDoor
open Go.RowKit CalM

theorem divides_at (y : Int) (h1 : 1 ≤ y) (b : Bool) (hb : leapB y = b) (w : World) :
    Calls Tryd.prog 52 #[.int .i64 y] w fun e w' => e = .returned (.bool b) ∧ w' = w := by
  by_cases a1 : y % 4 = 0
  · by_cases a2 : y % 100 = 0
    · go_enter Tryd.func52, Tryd.ntmps52
      go_wp2
      go_ret
      exact ⟨ret_bool (by rw [← hb, Bool.eq_iff_iff]; simp [leapB, a1, a2]), rfl⟩
    · go_enter Tryd.func52, Tryd.ntmps52
      go_wp2
      go_ret
      exact ⟨ret_bool (by rw [← hb, Bool.eq_iff_iff]; simp [leapB, a1, a2]), rfl⟩
  · go_enter Tryd.func52, Tryd.ntmps52
    go_wp2
    go_ret
    exact ⟨ret_bool (by rw [← hb, Bool.eq_iff_iff]; simp [leapB, a1]), rfl⟩

theorem yearLen_at (y n : Int) (h1 : 1 ≤ y) (hn : 365 + lp y = n) (w : World) :
    Calls Tryd.prog 39 #[.int .i64 y] w fun e w' => e = .returned (.int .i64 n) ∧ w' = w := by
  obtain ⟨b, hb⟩ : ∃ b, leapB y = b := ⟨_, rfl⟩
  have LP : Hid (∀ w, Calls Tryd.prog 52 #[.int .i64 y] w fun e w' => e = .returned (.bool b) ∧ w' = w) := fun w => divides_at y h1 b hb w
  rw [lp_of hb] at hn
  clear hb
  cases b
  all_goals
    simp at hn
    subst hn
    go_enter Tryd.func39, Tryd.ntmps39
    go_wp2_with fail
    refine (LP.out _).mono ?_
    rintro e w1 ⟨rfl, hw⟩; rw [hw]; clear hw w1
    go_wp2_with fail
    go_ret
    exact ⟨rfl, rfl⟩

theorem lenOf_at (y m n : Int) (h1 : 1 ≤ y) (m1 : 1 ≤ m) (m2 : m ≤ 12) (hn : lenI y m = n) (w : World) :
    Calls Tryd.prog 40 #[.int .i64 y, .int .i64 m] w fun e w' => e = .returned (.int .i64 n) ∧ w' = w := by
  obtain ⟨b, hb⟩ : ∃ b, leapB y = b := ⟨_, rfl⟩
  have LP : Hid (∀ w, Calls Tryd.prog 52 #[.int .i64 y] w fun e w' => e = .returned (.bool b) ∧ w' = w) := fun w => divides_at y h1 b hb w
  unfold lenI at hn
  rw [lp_of hb] at hn
  clear hb
  rcases month12 m1 m2 with e | e | e | e | e | e | e | e | e | e | e | e <;> subst e
  all_goals simp at hn
  case inr.inl =>
    cases b
    all_goals
      simp at hn
      go_enter Tryd.func40, Tryd.ntmps40
      go_wp2_with fail
      refine (LP.out _).mono ?_
      rintro e w1 ⟨rfl, hw⟩; rw [hw]; clear hw w1
      go_wp2_with fail
      go_ret
      exact ⟨ret_intC (by omega), rfl⟩
  all_goals
    go_enter Tryd.func40, Tryd.ntmps40
    go_wp2_with fail
    go_ret
    exact ⟨ret_intC (by omega), rfl⟩

theorem yA_400 (q : Int) : yA (400 * q + 1) = q * 146097 := by unfold yA; omega
theorem yA_bound {y : Int} (h1 : 1 ≤ y) (h2 : y ≤ 9999) : 0 ≤ yA y ∧ yA y ≤ 3651694 := by
  have a := yA_mono (a := 1) (b := y) h1
  have b := yA_mono (a := y) (b := 9999) h2
  have e1 : yA 1 = 0 := by decide
  have e2 : yA 9999 = 3651694 := by decide
  omega
theorem dA_bound {y m : Int} (h1 : 1 ≤ y) (h2 : y ≤ 9999) (m1 : 1 ≤ m) (m2 : m ≤ 12) : 0 ≤ dA y m ∧ dA y m ≤ 3652059 := by
  have a := dA_low y m m1 m2
  have b := dA_high y m m1 m2
  have c := yA_bound h1 h2
  have d := len_low y m
  have e := yA_succ y
  have f := lp_01 y
  omega

end Go.Proofs.YtmennknknecgjaaDoor
