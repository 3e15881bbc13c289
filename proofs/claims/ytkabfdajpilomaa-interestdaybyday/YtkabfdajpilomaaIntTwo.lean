/-
  Ours: the walks of InterestTwoSpans and InterestYear.
-/
import Derived.Test.YtkabfdajpilomaaIntSpan
namespace Go.Proofs.Ytkabfdajpilomaa
open Go.RowKit IntM

theorem ret_boolI {a b : Bool} (h : a = b) : Ending.returned (.bool a) = .returned (.bool b) := by rw [h]

def earnB (P r c : Int) : Bool := decide (0 ≤ P ∧ 0 ≤ r ∧ r ≤ 100000 ∧ 0 ≤ c ∧ c < 3650000)

theorem earning_at (P r c : Int) (b : Bool) (h : earnB P r c = b) (w : World) :
    Calls Try.prog 9 #[.int .i64 P, .int .i64 r, .int .i64 c] w fun e w' => e = .returned (.bool b) ∧ w' = w := by
  subst h
  unfold earnB
  go_enter Try.func9, Try.ntmps9
  go_wp2_with fail
  all_goals
    go_ret
    refine ⟨ret_boolI ?_, rfl⟩
    rw [Bool.eq_iff_iff]
    simp
    try omega

namespace Two
theorem add (P r c a b : Int) :
    cnt P r (a + b) c / 3650000 = cnt P r a c / 3650000 + cnt P r b (cnt P r a c % 3650000) / 3650000 ∧ cnt P r (a + b) c % 3650000 = cnt P r b (cnt P r a c % 3650000) % 3650000 := by
  unfold cnt
  rw [Int.mul_add, Int.mul_add]
  omega
theorem small {P r c d : Int} (h : spGood P r c d) (P1 : P ≤ 10000000000000) : 0 ≤ cnt P r d c ∧ cnt P r d c / 3650000 ≤ 2000000000000000000 := by
  obtain ⟨P0, r0, r1, c0, c1, d0, d1⟩ := h
  obtain ⟨x0, x1⟩ := rd_prod r0 r1 d0 d1
  unfold cnt
  have h1 := Int.mul_nonneg P0 x0
  have h2 := Int.mul_le_mul P1 x1 x0 (by omega : (0 : Int) ≤ 10000000000000)
  omega
end Two

theorem two_out (P r c a b : Int) (h : ¬ (earnB P r c = true ∧ P ≤ 10000000000000 ∧ 0 ≤ a ∧ a ≤ 3652059 ∧ 0 ≤ b ∧ b ≤ 3652059 - a)) (w : World) :
    Calls Try.prog 3 #[.int .i64 P, .int .i64 r, .int .i64 c, .int .i64 a, .int .i64 b] w fun e w' => e = .returned (.bool true) ∧ Grown w w' := by
  have EA : Hid (∀ w, Calls Try.prog 9 #[.int .i64 P, .int .i64 r, .int .i64 c] w fun e w' => e = .returned (.bool (earnB P r c)) ∧ w' = w) := fun w => earning_at P r c _ rfl w
  cases he : earnB P r c
  · rw [he] at EA
    clear h
    go_enter Try.func3, Try.ntmps3
    go_wp2_with fail
    refine (EA.out _).mono ?_
    rintro e w1 ⟨rfl, hw⟩; rw [hw]; clear hw w1
    go_wp2_with fail
    go_ret
    exact ⟨rfl, Grown.refl w⟩
  · rw [he] at EA
    have HO : Hid (¬ (P ≤ 10000000000000 ∧ 0 ≤ a ∧ a ≤ 3652059 ∧ 0 ≤ b ∧ b ≤ 3652059 - a)) := fun hh => h ⟨he, hh⟩
    clear h
    go_enter Try.func3, Try.ntmps3
    go_wp2_with fail
    refine (EA.out _).mono ?_
    rintro e w1 ⟨rfl, hw⟩; rw [hw]; clear hw w1
    go_wp2_with fail
    all_goals first
      | (exfalso
         exact HO.out (by omega))
      | (go_ret
         exact ⟨rfl, Grown.refl w⟩)

set_option maxHeartbeats 400000 in
theorem two_in (P r c a b : Int) (he : earnB P r c = true) (P1 : P ≤ 10000000000000) (a0 : 0 ≤ a) (a1 : a ≤ 3652059) (b0 : 0 ≤ b) (b1 : b ≤ 3652059 - a) (w : World) :
    Calls Try.prog 3 #[.int .i64 P, .int .i64 r, .int .i64 c, .int .i64 a, .int .i64 b] w fun e w' => e = .returned (.bool true) ∧ Grown w w' := by
  have EA : Hid (∀ w, Calls Try.prog 9 #[.int .i64 P, .int .i64 r, .int .i64 c] w fun e w' => e = .returned (.bool true) ∧ w' = w) := fun w => earning_at P r c _ he w
  have he := of_decide_eq_true he
  have g1 : spGood P r c a := by unfold spGood; omega
  have s1 : 0 ≤ cnt P r a c % 3650000 ∧ cnt P r a c % 3650000 < 3650000 := by omega
  have g2 : spGood P r (cnt P r a c % 3650000) b := by unfold spGood; omega
  have g3 : spGood P r c (a + b) := by unfold spGood; omega
  obtain ⟨k1, k2⟩ := Two.small g1 P1
  obtain ⟨k3, k4⟩ := Two.small g2 P1
  obtain ⟨k5, k6⟩ := Two.small g3 P1
  obtain ⟨e1, e2⟩ := Two.add P r c a b
  have A := fun w => span_yes P r c a g1 (by omega) (by omega) w
  have B := fun w => span_yes P r _ b g2 (by omega) (by omega) w
  have C := fun w => span_yes P r c (a + b) g3 (by omega) (by omega) w
  rw [e1, e2] at C
  rw [e1] at k6
  clear e1 e2 g1 g2 g3
  have q1 : 0 ≤ cnt P r a c / 3650000 := by omega
  have q2 : 0 ≤ cnt P r b (cnt P r a c % 3650000) / 3650000 := by omega
  generalize cnt P r b (cnt P r a c % 3650000) / 3650000 = y at *
  generalize cnt P r b (cnt P r a c % 3650000) % 3650000 = t at *
  generalize cnt P r a c / 3650000 = x at *
  generalize cnt P r a c % 3650000 = s at *
  have AA : Hid (∀ w, Calls Try.prog 10 #[.int .i64 P, .int .i64 r, .int .i64 c, .int .i64 a] w fun e w' => e = .returned (.tuple #[.int .i64 x, .int .i64 s, .bool true]) ∧ ∃ n, w' = w.drewN n) := A
  have BB : Hid (∀ w, Calls Try.prog 10 #[.int .i64 P, .int .i64 r, .int .i64 s, .int .i64 b] w fun e w' => e = .returned (.tuple #[.int .i64 y, .int .i64 t, .bool true]) ∧ ∃ n, w' = w.drewN n) := B
  have CC : Hid (∀ w, Calls Try.prog 10 #[.int .i64 P, .int .i64 r, .int .i64 c, .int .i64 (a + b)] w fun e w' => e = .returned (.tuple #[.int .i64 (x + y), .int .i64 t, .bool true]) ∧ ∃ n, w' = w.drewN n) := C
  clear A B C
  go_enter Try.func3, Try.ntmps3
  go_wp2_with fail
  refine (EA.out _).mono ?_
  rintro e w1 ⟨rfl, hw⟩; rw [hw]; clear hw w1
  go_wp2_with fail
  refine (AA.out _).mono ?_
  rintro e w1 ⟨rfl, n1, hw⟩; rw [hw]; clear hw w1
  go_wp2_with fail
  refine (BB.out _).mono ?_
  rintro e w1 ⟨rfl, n2, hw⟩; rw [hw]; clear hw w1
  go_wp2_with fail
  refine (CC.out _).mono ?_
  rintro e w1 ⟨rfl, n3, hw⟩; rw [hw]; clear hw w1
  go_wp2_with fail
  go_ret
  exact ⟨rfl, Grown.refl w⟩

theorem two_walk (P : Int) (_ : -9223372036854775808 ≤ P) (_ : P ≤ 9223372036854775807) (r : Int) (_ : -9223372036854775808 ≤ r) (_ : r ≤ 9223372036854775807) (c : Int) (_ : -9223372036854775808 ≤ c) (_ : c ≤ 9223372036854775807)
    (a : Int) (_ : -9223372036854775808 ≤ a) (_ : a ≤ 9223372036854775807) (b : Int) (_ : -9223372036854775808 ≤ b) (_ : b ≤ 9223372036854775807) (w : World) :
    Calls Try.prog 3 #[.int .i64 P, .int .i64 r, .int .i64 c, .int .i64 a, .int .i64 b] w fun e w' => e = .returned (.bool true) ∧ Grown w w' := by
  by_cases h : earnB P r c = true ∧ P ≤ 10000000000000 ∧ 0 ≤ a ∧ a ≤ 3652059 ∧ 0 ≤ b ∧ b ≤ 3652059 - a
  · obtain ⟨h1, h2, h3, h4, h5, h6⟩ := h
    exact two_in P r c a b h1 h2 h3 h4 h5 h6 w
  · exact two_out P r c a b h w
end Go.Proofs.Ytkabfdajpilomaa
