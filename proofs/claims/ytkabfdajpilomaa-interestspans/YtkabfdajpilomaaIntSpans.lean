/-
  Ours: the reference's Span and Daily at any numbers; the walk of InterestSpans.
-/
import Derived.Test.YtkabfdajpilomaaIntRef2
namespace Go.Proofs.Ytkabfdajpilomaa
open Go.RowKit IntM

theorem refspan_no (P r c d : Int) (h : ¬ spGood P r c d) (w : World) :
    Calls Try.prog 16 #[.int .i64 P, .int .i64 r, .int .i64 c, .int .i64 d] w fun e w' =>
      e = .returned (.tuple #[.int .i64 0, .int .i64 0, .bool false]) ∧ w' = w := by
  unfold spGood at h
  by_cases hP : 0 ≤ P
  · have IR : Hid (∀ w, Calls Try.prog 24 #[.int .i64 r] w fun e w' => e = .returned (.bool (rateB r)) ∧ w' = w) := fun w => refRate_at r _ rfl w
    by_cases hr : 0 ≤ r ∧ r ≤ 100000
    · have er : rateB r = true := decide_eq_true hr
      rw [er] at IR
      by_cases hc : 0 ≤ c
      · by_cases hc1 : c < 3650000
        · by_cases hd : 0 ≤ d
          · have hd1 : 3652059 < d := by omega
            clear h
            go_enter Try.func16, Try.ntmps16
            go_wp2_with fail
            refine (IR.out _).mono ?_
            rintro e w1 ⟨rfl, hw⟩; rw [hw]; clear hw w1
            go_wp2_with fail
            go_ret3
            exact ⟨rfl, rfl⟩
          · clear h
            go_enter Try.func16, Try.ntmps16
            go_wp2_with fail
            refine (IR.out _).mono ?_
            rintro e w1 ⟨rfl, hw⟩; rw [hw]; clear hw w1
            go_wp2_with fail
            go_ret3
            exact ⟨rfl, rfl⟩
        · clear h
          go_enter Try.func16, Try.ntmps16
          go_wp2_with fail
          refine (IR.out _).mono ?_
          rintro e w1 ⟨rfl, hw⟩; rw [hw]; clear hw w1
          go_wp2_with fail
          go_ret3
          exact ⟨rfl, rfl⟩
      · clear h
        go_enter Try.func16, Try.ntmps16
        go_wp2_with fail
        refine (IR.out _).mono ?_
        rintro e w1 ⟨rfl, hw⟩; rw [hw]; clear hw w1
        go_wp2_with fail
        go_ret3
        exact ⟨rfl, rfl⟩
    · have er : rateB r = false := decide_eq_false hr
      rw [er] at IR
      clear h
      go_enter Try.func16, Try.ntmps16
      go_wp2_with fail
      refine (IR.out _).mono ?_
      rintro e w1 ⟨rfl, hw⟩; rw [hw]; clear hw w1
      go_wp2_with fail
      go_ret3
      exact ⟨rfl, rfl⟩
  · clear h
    go_enter Try.func16, Try.ntmps16
    go_wp2_with fail
    go_ret3
    exact ⟨rfl, rfl⟩

theorem refspan_any (P r c d : Int) (P1 : P ≤ 9223372036854775807) (w : World) :
    Calls Try.prog 16 #[.int .i64 P, .int .i64 r, .int .i64 c, .int .i64 d] w fun e w' =>
      e = .returned (.tuple #[.int .i64 (spC P r c d), .int .i64 (spR P r c d), .bool (spOk P r c d)]) ∧ w' = w := by
  by_cases hg : spGood P r c d
  · exact refspan_good P r c d hg P1 w
  · obtain ⟨e1, e2, e3⟩ := sp_bad (fun h => hg h.1)
    rw [e1, e2, e3]
    exact refspan_no P r c d hg w

theorem refdaily_any (P r c : Int) (P1 : P ≤ 9223372036854775807) (w : World) :
    Calls Try.prog 15 #[.int .i64 P, .int .i64 r, .int .i64 c] w fun e w' =>
      e = .returned (.tuple #[.int .i64 (spC P r c 1), .int .i64 (spR P r c 1), .bool (spOk P r c 1)]) ∧ w' = w := by
  have SS : Hid (∀ w, Calls Try.prog 16 #[.int .i64 P, .int .i64 r, .int .i64 c, .int .i64 1] w fun e w' =>
      e = .returned (.tuple #[.int .i64 (spC P r c 1), .int .i64 (spR P r c 1), .bool (spOk P r c 1)]) ∧ w' = w) := fun w => refspan_any P r c 1 P1 w
  generalize spC P r c 1 = q at *
  generalize spR P r c 1 = s at *
  generalize spOk P r c 1 = k at *
  go_enter Try.func15, Try.ntmps15
  go_wp2_with fail
  refine (SS.out _).mono ?_
  rintro e w1 ⟨rfl, hw⟩; rw [hw]; clear hw w1
  go_wp2_with fail
  go_ret3
  exact ⟨rfl, rfl⟩

set_option maxHeartbeats 400000 in
theorem spans_walk (P : Int) (_ : -9223372036854775808 ≤ P) (P1 : P ≤ 9223372036854775807) (r : Int) (_ : -9223372036854775808 ≤ r) (_ : r ≤ 9223372036854775807) (c : Int) (_ : -9223372036854775808 ≤ c) (_ : c ≤ 9223372036854775807)
    (d : Int) (_ : -9223372036854775808 ≤ d) (_ : d ≤ 9223372036854775807) (w : World) :
    Calls Try.prog 8 #[.int .i64 P, .int .i64 r, .int .i64 c, .int .i64 d] w fun e w' => e = .returned (.bool true) ∧ Grown w w' := by
  have D := fun w => daily_any P r c P1 w
  have E := fun w => refdaily_any P r c P1 w
  have S := fun w => span_any P r c d P1 w
  have T := fun w => refspan_any P r c d P1 w
  generalize spC P r c 1 = q at *
  generalize spR P r c 1 = s at *
  generalize spOk P r c 1 = k at *
  generalize spC P r c d = q' at *
  generalize spR P r c d = s' at *
  generalize spOk P r c d = k' at *
  have DD : Hid (∀ w, Calls Try.prog 13 #[.int .i64 P, .int .i64 r, .int .i64 c] w fun e w' => e = .returned (.tuple #[.int .i64 q, .int .i64 s, .bool k]) ∧ ∃ n, w' = w.drewN n) := D
  have EE : Hid (∀ w, Calls Try.prog 15 #[.int .i64 P, .int .i64 r, .int .i64 c] w fun e w' => e = .returned (.tuple #[.int .i64 q, .int .i64 s, .bool k]) ∧ w' = w) := E
  have SS : Hid (∀ w, Calls Try.prog 10 #[.int .i64 P, .int .i64 r, .int .i64 c, .int .i64 d] w fun e w' => e = .returned (.tuple #[.int .i64 q', .int .i64 s', .bool k']) ∧ ∃ n, w' = w.drewN n) := S
  have TT : Hid (∀ w, Calls Try.prog 16 #[.int .i64 P, .int .i64 r, .int .i64 c, .int .i64 d] w fun e w' => e = .returned (.tuple #[.int .i64 q', .int .i64 s', .bool k']) ∧ w' = w) := T
  clear D E S T
  cases k <;> cases k'
  all_goals
    go_enter Try.func8, Try.ntmps8
    go_wp2_with fail
    refine (DD.out _).mono ?_
    rintro e w1 ⟨rfl, n1, hw⟩; rw [hw]; clear hw w1
    go_wp2_with fail
    refine (EE.out _).mono ?_
    rintro e w1 ⟨rfl, hw⟩; rw [hw]; clear hw w1
    go_wp2_with fail
    refine (SS.out _).mono ?_
    rintro e w1 ⟨rfl, n2, hw⟩; rw [hw]; clear hw w1
    go_wp2_with fail
    refine (TT.out _).mono ?_
    rintro e w1 ⟨rfl, hw⟩; rw [hw]; clear hw w1
    go_wp2_with fail
    go_ret
    exact ⟨rfl, Grown.refl w⟩
end Go.Proofs.Ytkabfdajpilomaa
