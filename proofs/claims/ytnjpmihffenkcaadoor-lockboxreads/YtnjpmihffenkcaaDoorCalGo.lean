/-
  Ours: contracts of the calendar's small functions: isYear, isDay, Leap, daysAhead, yearOf, Weekday.
-/
import Derived.Test.YtnjpmihffenkcaaDoorProg
import Derived.Test.YtnjpmihffenkcaaDoorCalMath
import Derived.WalkKit
import Derived.WalkSpells
import Derived.WalkLawsBesides
import Derived.RowKit3
import Derived.Laws.Bits64
namespace Go.Proofs.YtnjpmihffenkcaaDoor
open Go.RowKit CalM

theorem ret_int {k : IntKind} {a b : Int} (h : a = b) : Ending.returned (.int k a) = .returned (.int k b) := by rw [h]
theorem ret_bool {a b : Bool} (h : a = b) : Ending.returned (.bool a) = .returned (.bool b) := by rw [h]
theorem ret_ib {k : IntKind} {a b : Int} {p q : Bool} (h : a = b) (h' : p = q) : Ending.returned (.tuple #[.int k a, .bool p]) = .returned (.tuple #[.int k b, .bool q]) := by rw [h, h']

set_option maxHeartbeats 1000000 in
theorem yearOf_at (d y : Int) (h1 : 1 ≤ d) (h2 : d ≤ 3652059) (hy : yearOf d = y) (w : World) :
    Calls Tryd.prog 54 #[.int .i64 d] w fun e w' => e = .returned (.int .i64 y) ∧ w' = w := by
  go_enter Tryd.func54, Tryd.ntmps54
  go_wp2
  all_goals
    go_ret
    refine ⟨ret_int ?_, rfl⟩
    rw [← hy]
    unfold yearOf
    have e1 : yearC d = min ((d - 1) % 146097 / 36524) 3 := rfl
    have e2 : yearR d = (d - 1) % 146097 - yearC d * 36524 := rfl
    generalize yearC d = C at *
    generalize yearR d = R at *
    generalize (d - 1) % 146097 / 36524 = A at *
    rcases Int.lt_or_le 3 A with g | g
    · have c3 : C = 3 := by omega
      subst c3
      have e3 : (d - 1) % 146097 - 109572 = R := by omega
      rw [e3] at *
      omega
    · have c3 : C = A := by omega
      subst c3
      rw [← e2] at *
      omega

theorem isYear_at (y : Int) (b : Bool) (hb : decide (1 ≤ y ∧ y ≤ 9999) = b) (w : World) :
    Calls Tryd.prog 78 #[.int .i64 y] w fun e w' => e = .returned (.bool b) ∧ w' = w := by
  by_cases h1 : 1 ≤ y
  · go_enter Tryd.func78, Tryd.ntmps78
    go_wp2
    go_ret
    exact ⟨ret_bool (by rw [← hb, Bool.eq_iff_iff]; simp; omega), rfl⟩
  · go_enter Tryd.func78, Tryd.ntmps78
    go_wp2
    go_ret
    exact ⟨ret_bool (by rw [← hb, Bool.eq_iff_iff]; simp; omega), rfl⟩

theorem isDay_at (y : Int) (b : Bool) (hb : decide (1 ≤ y ∧ y ≤ 3652059) = b) (w : World) :
    Calls Tryd.prog 53 #[.int .i64 y] w fun e w' => e = .returned (.bool b) ∧ w' = w := by
  by_cases h1 : 1 ≤ y
  · go_enter Tryd.func53, Tryd.ntmps53
    go_wp2
    go_ret
    exact ⟨ret_bool (by rw [← hb, Bool.eq_iff_iff]; simp; omega), rfl⟩
  · go_enter Tryd.func53, Tryd.ntmps53
    go_wp2
    go_ret
    exact ⟨ret_bool (by rw [← hb, Bool.eq_iff_iff]; simp; omega), rfl⟩

theorem leap_at (y : Int) (h1 : 1 ≤ y) (h2 : y ≤ 9999) (b : Bool) (hb : leapB y = b) (w : World) :
    Calls Tryd.prog 69 #[.int .i64 y] w fun e w' => e = .returned (.bool b) ∧ w' = w := by
  by_cases a1 : y % 4 = 0
  · by_cases a2 : y % 100 = 0
    · go_enter Tryd.func69, Tryd.ntmps69
      go_wp2
      go_ret
      exact ⟨ret_bool (by rw [← hb, Bool.eq_iff_iff]; simp [leapB, a1, a2]), rfl⟩
    · go_enter Tryd.func69, Tryd.ntmps69
      go_wp2
      go_ret
      exact ⟨ret_bool (by rw [← hb, Bool.eq_iff_iff]; simp [leapB, a1, a2]), rfl⟩
  · go_enter Tryd.func69, Tryd.ntmps69
    go_wp2
    go_ret
    exact ⟨ret_bool (by rw [← hb, Bool.eq_iff_iff]; simp [leapB, a1]), rfl⟩

theorem leap_no (y : Int) (h : ¬(1 ≤ y ∧ y ≤ 9999)) (w : World) :
    Calls Tryd.prog 69 #[.int .i64 y] w fun e w' => e = .returned (.bool false) ∧ w' = w := by
  by_cases h1 : 1 ≤ y
  · have h2 : ¬ y ≤ 9999 := fun g => h ⟨h1, g⟩
    clear h
    go_enter Tryd.func69, Tryd.ntmps69
    go_wp2
    go_ret
    exact ⟨rfl, rfl⟩
  · clear h
    go_enter Tryd.func69, Tryd.ntmps69
    go_wp2
    go_ret
    exact ⟨rfl, rfl⟩

theorem daysAhead_at (y m n : Int) (h1 : 1 ≤ y) (h2 : y ≤ 9999) (m1 : 1 ≤ m) (m2 : m ≤ 12) (w : World) (hA : w.cell? ⟨2, m.toNat, none⟩ = some (.int .i64 (aheadI m))) (hn : dA y m = n) :
    Calls Tryd.prog 55 #[.int .i64 y, .int .i64 m] w fun e w' => e = .returned (.int .i64 n) ∧ w' = w := by
  have b0 : 0 ≤ aheadI m ∧ aheadI m ≤ 334 := by unfold aheadI; omega
  have en : n = (y - 1) * 365 + (y - 1) / 4 - (y - 1) / 100 + (y - 1) / 400 + aheadI m + (if m > 2 then lp y else 0) := hn.symm
  clear hn
  obtain ⟨b, hb⟩ : ∃ b, leapB y = b := ⟨_, rfl⟩
  have LP : Hid (∀ w, Calls Tryd.prog 69 #[.int .i64 y] w fun e w' => e = .returned (.bool b) ∧ w' = w) := fun w => leap_at y h1 h2 b hb w
  have hl : lp y = if b then 1 else 0 := by
    have := lp_leap y
    have := lp_01 y
    cases b <;> simp_all
  rw [hl] at en
  clear hl hb
  generalize aheadI m = a at *
  by_cases hm : m > 2
  · rw [if_pos hm] at en
    cases b
    all_goals
      go_enter Tryd.func55, Tryd.ntmps55
      go_wp2_with fail
      refine (LP.out _).mono ?_
      rintro e w1 ⟨rfl, hw⟩; rw [hw]; clear hw w1
      go_wp2_with fail
      go_ret
      exact ⟨ret_int (by first | (rw [en]; simp) | simp), rfl⟩
  · rw [if_neg hm] at en
    go_enter Tryd.func55, Tryd.ntmps55
    go_wp2_with fail
    go_ret
    exact ⟨ret_int (by first | (rw [en]; simp) | simp), rfl⟩

end Go.Proofs.YtnjpmihffenkcaaDoor
