/-
  Ours: the reference's Span and Daily; the walk of InterestSpans.
-/
import Derived.Test.YtkabfdajpilomaaIntRef
namespace Go.Proofs.Ytkabfdajpilomaa
open Go.RowKit IntM

namespace RSpan
theorem parts {P r c d : Int} (h : spGood P r c d) (P1 : P ≤ 9223372036854775807) :
    0 ≤ P / 3650000 * r ∧ P / 3650000 * r ≤ 252695124297400000 ∧ 0 ≤ P % 3650000 * r ∧ P % 3650000 * r ≤ 364999900000 ∧ 0 ≤ P % 3650000 * r * d ∧ P % 3650000 * r * d ≤ 1333001169794100000 := by
  obtain ⟨P0, r0, r1, c0, c1, d0, d1⟩ := h
  obtain ⟨x0, x1⟩ := small_prod (x := P / 3650000) (X := 2526951242974) (by omega) (by omega) r0 r1
  obtain ⟨y0, y1⟩ := small_prod (x := P % 3650000) (X := 3649999) (by omega) (by omega) r0 r1
  have z0 := Int.mul_nonneg y0 d0
  have z1 := Int.mul_le_mul (show P % 3650000 * r ≤ 364999900000 by omega) d1 d0 (by omega)
  refine ⟨x0, by omega, y0, by omega, z0, by omega⟩
end RSpan

set_option maxHeartbeats 1000000 in
theorem refspan_good (P r c d : Int) (h : spGood P r c d) (P1 : P ≤ 9223372036854775807) (w : World) :
    Calls Try.prog 16 #[.int .i64 P, .int .i64 r, .int .i64 c, .int .i64 d] w fun e w' =>
      e = .returned (.tuple #[.int .i64 (spC P r c d), .int .i64 (spR P r c d), .bool (spOk P r c d)]) ∧ w' = w := by
  have hp := cnt_parts P r d c
  obtain ⟨x0, x1, y0, y1, z0, z1⟩ := RSpan.parts h P1
  have hg := h
  obtain ⟨P0, r0, r1, c0, c1, d0, d1⟩ := h
  have IR : Hid (∀ w, Calls Try.prog 24 #[.int .i64 r] w fun e w' => e = .returned (.bool true) ∧ w' = w) := fun w => refRate_at r true (decide_eq_true ⟨r0, r1⟩) w
  obtain ⟨S, hS⟩ : ∃ S, (P % 3650000 * r * d + c) / 3650000 = S := ⟨_, rfl⟩
  obtain ⟨R, hR⟩ : ∃ R, (P % 3650000 * r * d + c) % 3650000 = R := ⟨_, rfl⟩
  have hq : cnt P r d c / 3650000 = P / 3650000 * r * d + S := by rw [hp]; omega
  have hr : cnt P r d c % 3650000 = R := by rw [hp]; omega
  have S0 : 0 ≤ S := by omega
  have S1 : S ≤ 365205800000 := by omega
  by_cases hd : d = 0
  · have k : cnt P r d c / 3650000 ≤ 9223372036854775807 := by rw [hq, hd]; simp; omega
    obtain ⟨e1, e2, e3⟩ := sp_good hg k
    rw [e1, e2, e3, hq, hr]
    clear e1 e2 e3 hq hr hp k hg
    subst hd
    generalize hX : P / 3650000 * r = X at *
    generalize hY : P % 3650000 * r = Y at *
    simp only [Int.mul_zero, Int.zero_add] at *
    go_enter Try.func16, Try.ntmps16
    go_wp2_with fail
    refine (IR.out _).mono ?_
    rintro e w1 ⟨rfl, hw⟩; rw [hw]; clear hw w1
    go_wp2_with fail
    go_ret3
    exact ⟨ret3 (by omega) (by omega) rfl, rfl⟩
  · have dp : 0 < d := by omega
    by_cases hk : P / 3650000 * r * d ≤ 9223372036854775807 - S
    · obtain ⟨e1, e2, e3⟩ := sp_good hg (by rw [hq]; omega)
      rw [e1, e2, e3, hq, hr]
      clear e1 e2 e3 hq hr hp hg
      have w0 : 0 ≤ P / 3650000 * r * d := Int.mul_nonneg x0 d0
      have hd := (Int.le_ediv_iff_mul_le dp).2 hk
      have t1 : 0 ≤ (9223372036854775807 - S) / d := Int.ediv_nonneg (by omega) d0
      have t2 : (9223372036854775807 - S) / d ≤ 9223372036854775807 := Int.le_trans (Int.ediv_le_self _ (by omega)) (by omega)
      generalize hX : P / 3650000 * r = X at *
      generalize hY : P % 3650000 * r = Y at *
      generalize hZ : Y * d = Z at *
      go_enter Try.func16, Try.ntmps16
      go_wp2_with fail
      refine (IR.out _).mono ?_
      rintro e w1 ⟨rfl, hw⟩; rw [hw]; clear hw w1
      go_wp2_with fail
      rw [hS]
      go_wp2_with fail
      go_ret3
      exact ⟨ret3 (by omega) (by omega) rfl, rfl⟩
    · obtain ⟨e1, e2, e3⟩ := sp_bad (P := P) (r := r) (c := c) (d := d) (fun h => hk (by have := h.2; rw [hq] at this; omega))
      rw [e1, e2, e3]
      clear e1 e2 e3 hq hr hp hg
      have hd := mt (Int.le_ediv_iff_mul_le dp).1 hk
      have t1 : 0 ≤ (9223372036854775807 - S) / d := Int.ediv_nonneg (by omega) d0
      have t2 : (9223372036854775807 - S) / d ≤ 9223372036854775807 := Int.le_trans (Int.ediv_le_self _ (by omega)) (by omega)
      generalize hX : P / 3650000 * r = X at *
      generalize hY : P % 3650000 * r = Y at *
      generalize hZ : Y * d = Z at *
      go_enter Try.func16, Try.ntmps16
      go_wp2_with fail
      refine (IR.out _).mono ?_
      rintro e w1 ⟨rfl, hw⟩; rw [hw]; clear hw w1
      go_wp2_with fail
      rw [hS]
      go_wp2_with fail
      go_ret3
      exact ⟨rfl, rfl⟩
end Go.Proofs.Ytkabfdajpilomaa
