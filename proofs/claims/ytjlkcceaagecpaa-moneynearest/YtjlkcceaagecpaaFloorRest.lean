/-
  Ours: the law MoneyFloorRest walked.
-/
import Derived.Test.YtjlkcceaagecpaaCalc
namespace Go.Proofs.Ytjlkcceaagecpaa
open Go.RowKit

/-- Is x from -2^30 to 2^30? -/
def smB (x : Int) : Bool := decide (-1073741824 ≤ x ∧ x ≤ 1073741824)

theorem small_any (x : Int) (w : World) :
    Calls Try.prog 16 #[.int .i64 x] w fun e w' => e = .returned (.bool (smB x)) ∧ w' = w := by
  by_cases h : -1073741824 ≤ x
  · by_cases h' : x ≤ 1073741824
    · have e : smB x = true := by simp [smB]; omega
      rw [e]; clear e
      go_enter Try.func16, Try.ntmps16
      go_wp2
      go_ret
      exact ⟨rfl, rfl⟩
    · have e : smB x = false := by simp [smB]; omega
      rw [e]; clear e
      go_enter Try.func16, Try.ntmps16
      go_wp2
      go_ret
      exact ⟨rfl, rfl⟩
  · have e : smB x = false := by simp [smB]; omega
    rw [e]; clear e
    go_enter Try.func16, Try.ntmps16
    go_wp2
    go_ret
    exact ⟨rfl, rfl⟩

namespace FloorRest
theorem prod_small {a b : Int} (ha : smB a = true) (hb : smB b = true) : -1152921504606846976 ≤ a * b ∧ a * b ≤ 1152921504606846976 := by
  simp only [smB, decide_eq_true_iff] at ha hb
  have h : a.natAbs * b.natAbs ≤ 1073741824 * 1073741824 := Nat.mul_le_mul (by omega) (by omega)
  rw [Signs.prod]
  generalize a.natAbs * b.natAbs = P at *
  split <;> omega

theorem div_small {x c : Int} (hc : 0 < c) (h0 : -1152921504606846976 ≤ x) (h1 : x ≤ 1152921504606846976) : -1152921504606846976 ≤ x / c ∧ x / c ≤ 1152921504606846976 := by
  have e1 := (Int.le_ediv_iff_mul_le (a := -1152921504606846976) (b := x) hc).2 (by omega)
  have e2 := (Int.ediv_lt_iff_lt_mul (a := x) (b := 1152921504606846977) hc).2 (by omega)
  omega

theorem refused {a b c : Int} (h : flOk a b c = false) (hc : 0 < c) (ha : smB a = true) (hb : smB b = true) : False := by
  obtain ⟨p0, p1⟩ := prod_small ha hb
  obtain ⟨d0, d1⟩ := div_small hc p0 p1
  simp only [flOk, decide_eq_false_iff_not] at h
  omega

/-- The quotient that is cut toward 0 is the floor, or one more. -/
theorem cut (x c : Int) (hc : 0 < c) : x / c ≤ x.tdiv c ∧ x.tdiv c ≤ x / c + 1 := by
  rw [Int.tdiv_eq_ediv]
  have : c.sign = 1 := Int.sign_eq_one_of_pos hc
  rw [this]
  split <;> omega
end FloorRest

set_option maxHeartbeats 400000 in
theorem floorRest_no (a b c : Int) (a0 : -9223372036854775808 ≤ a) (a1 : a ≤ 9223372036854775807) (b0 : -9223372036854775808 ≤ b) (b1 : b ≤ 9223372036854775807) (c0 : -9223372036854775808 ≤ c) (c1 : c ≤ 9223372036854775807) (hk : flOk a b c = false) (w : World) :
    Calls Try.prog 6 #[.int .i64 a, .int .i64 b, .int .i64 c] w fun e w' => e = .returned (.bool true) ∧ ∃ n, w' = w.drewN n := by
  have D := fun w => floor_any a b c a0 a1 b0 b1 c0 c1 w
  have q0 : flQ a b c = 0 := by simp [flQ, hk]
  have r0 : flR a b c = 0 := by simp [flR, hk]
  rw [hk, q0, r0] at D
  have DD : Hid (∀ w, Calls Try.prog 18 #[.int .i64 a, .int .i64 b, .int .i64 c] w fun e w' => e = .returned (.tuple #[.int .i64 0, .int .i64 0, .bool false]) ∧ ∃ n, w' = w.drewN n) := D
  clear D q0 r0
  by_cases hc : 0 < c
  · have rf := FloorRest.refused hk hc
    have sa := fun w => small_any a w
    cases ha : smB a
    · rw [ha] at sa
      have SA : Hid (∀ w, Calls Try.prog 16 #[.int .i64 a] w fun e w' => e = .returned (.bool false) ∧ w' = w) := sa
      clear rf ha hk sa
      go_enter Try.func6, Try.ntmps6
      go_wp2_with fail
      refine (DD.out _).mono ?_
      rintro e w1 ⟨rfl, n, hw⟩; rw [hw]; clear hw w1
      go_wp2_with fail
      refine (SA.out _).mono ?_
      rintro e w1 ⟨rfl, hw⟩; rw [hw]; clear hw w1
      go_wp2_with fail
      go_ret
      exact ⟨rfl, _, rfl⟩
    · have sb := fun w => small_any b w
      have hb : smB b = false := by
        cases hb : smB b
        · rfl
        · exact (rf ha hb).elim
      rw [ha] at sa
      rw [hb] at sb
      have SA : Hid (∀ w, Calls Try.prog 16 #[.int .i64 a] w fun e w' => e = .returned (.bool true) ∧ w' = w) := sa
      have SB : Hid (∀ w, Calls Try.prog 16 #[.int .i64 b] w fun e w' => e = .returned (.bool false) ∧ w' = w) := sb
      clear rf ha hk sa sb hb
      go_enter Try.func6, Try.ntmps6
      go_wp2_with fail
      refine (DD.out _).mono ?_
      rintro e w1 ⟨rfl, n, hw⟩; rw [hw]; clear hw w1
      go_wp2_with fail
      refine (SA.out _).mono ?_
      rintro e w1 ⟨rfl, hw⟩; rw [hw]; clear hw w1
      go_wp2_with fail
      refine (SB.out _).mono ?_
      rintro e w1 ⟨rfl, hw⟩; rw [hw]; clear hw w1
      go_wp2_with fail
      go_ret
      exact ⟨rfl, _, rfl⟩
  · have dc : decide (0 < c) = false := decide_eq_false hc
    clear hk
    go_enter Try.func6, Try.ntmps6
    go_wp2_with fail
    refine (DD.out _).mono ?_
    rintro e w1 ⟨rfl, n, hw⟩; rw [hw]; clear hw w1
    go_wp2_with fail
    go_ret
    exact ⟨rfl, _, rfl⟩

set_option maxHeartbeats 1000000 in
theorem floorRest_yes (a b c : Int) (a0 : -9223372036854775808 ≤ a) (a1 : a ≤ 9223372036854775807) (b0 : -9223372036854775808 ≤ b) (b1 : b ≤ 9223372036854775807) (c0 : -9223372036854775808 ≤ c) (c1 : c ≤ 9223372036854775807) (hk : flOk a b c = true) (w : World) :
    Calls Try.prog 6 #[.int .i64 a, .int .i64 b, .int .i64 c] w fun e w' => e = .returned (.bool true) ∧ ∃ n, w' = w.drewN n := by
  have D := fun w => floor_any a b c a0 a1 b0 b1 c0 c1 w
  have q0 : flQ a b c = a * b / c := by simp [flQ, hk]
  have r0 : flR a b c = a * b % c := by simp [flR, hk]
  have hk' := hk
  simp only [flOk, decide_eq_true_iff] at hk'
  obtain ⟨hc, k1, k2⟩ := hk'
  have qr := Int.mul_ediv_add_emod (a * b) c
  have rr0 := Int.emod_nonneg (a * b) (show c ≠ 0 by omega)
  have rr1 := Int.emod_lt_of_pos (a * b) hc
  have ct := FloorRest.cut (a * b) c hc
  have ds := fun h h' => FloorRest.div_small (x := a * b) hc h h'
  rw [Int.mul_comm] at qr
  rw [hk, q0, r0] at D
  generalize a * b / c = q at *
  generalize a * b % c = r at *
  have DD : Hid (∀ w, Calls Try.prog 18 #[.int .i64 a, .int .i64 b, .int .i64 c] w fun e w' => e = .returned (.tuple #[.int .i64 q, .int .i64 r, .bool true]) ∧ ∃ n, w' = w.drewN n) := D
  clear D q0 r0 hk
  by_cases hs : smB a = true ∧ smB b = true ∧ smB c = true
  · obtain ⟨ha, hb, hcc⟩ := hs
    obtain ⟨p0, p1⟩ := FloorRest.prod_small ha hb
    obtain ⟨d0, d1⟩ := ds p0 p1
    have sa := fun w => small_any a w
    have sb := fun w => small_any b w
    have sc := fun w => small_any c w
    rw [ha] at sa
    rw [hb] at sb
    rw [hcc] at sc
    have SA : Hid (∀ w, Calls Try.prog 16 #[.int .i64 a] w fun e w' => e = .returned (.bool true) ∧ w' = w) := sa
    have SB : Hid (∀ w, Calls Try.prog 16 #[.int .i64 b] w fun e w' => e = .returned (.bool true) ∧ w' = w) := sb
    have SC : Hid (∀ w, Calls Try.prog 16 #[.int .i64 c] w fun e w' => e = .returned (.bool true) ∧ w' = w) := sc
    simp only [smB, decide_eq_true_iff] at hcc
    obtain ⟨ct0, ct1⟩ := ct
    have e1 : (a * b == q * c + r) = true := by simp; omega
    have m0 : -2305843009213693952 ≤ q * c := by omega
    have m1 : q * c ≤ 2305843009213693952 := by omega
    clear sa sb sc ds qr ha hb
    go_enter Try.func6, Try.ntmps6
    go_wp2_with fail
    refine (DD.out _).mono ?_
    rintro e w1 ⟨rfl, n, hw⟩; rw [hw]; clear hw w1
    go_wp2_with fail
    refine (SA.out _).mono ?_
    rintro e w1 ⟨rfl, hw⟩; rw [hw]; clear hw w1
    go_wp2_with fail
    refine (SB.out _).mono ?_
    rintro e w1 ⟨rfl, hw⟩; rw [hw]; clear hw w1
    go_wp2_with fail
    refine (SC.out _).mono ?_
    rintro e w1 ⟨rfl, hw⟩; rw [hw]; clear hw w1
    go_wp2_with fail
    go_ret
    exact ⟨rfl, _, rfl⟩
  · have e1 : (wrap64 (a * b) == wrap64 (wrap64 (q * c) + r)) = true := by
      rw [← qr]; simp only [wrap64, beq_iff_eq]; omega
    have sa := fun w => small_any a w
    have sb := fun w => small_any b w
    have sc := fun w => small_any c w
    clear qr ct ds
    cases ha : smB a
    · rw [ha] at sa
      have SA : Hid (∀ w, Calls Try.prog 16 #[.int .i64 a] w fun e w' => e = .returned (.bool false) ∧ w' = w) := sa
      clear sa sb sc hs ha
      go_enter Try.func6, Try.ntmps6
      go_wp2_with fail
      refine (DD.out _).mono ?_
      rintro e w1 ⟨rfl, n, hw⟩; rw [hw]; clear hw w1
      go_wp2_with fail
      refine (SA.out _).mono ?_
      rintro e w1 ⟨rfl, hw⟩; rw [hw]; clear hw w1
      go_wp2_with fail
      go_ret
      exact ⟨rfl, _, rfl⟩
    cases hb : smB b
    · rw [ha] at sa
      rw [hb] at sb
      have SA : Hid (∀ w, Calls Try.prog 16 #[.int .i64 a] w fun e w' => e = .returned (.bool true) ∧ w' = w) := sa
      have SB : Hid (∀ w, Calls Try.prog 16 #[.int .i64 b] w fun e w' => e = .returned (.bool false) ∧ w' = w) := sb
      clear sa sb sc hs ha hb
      go_enter Try.func6, Try.ntmps6
      go_wp2_with fail
      refine (DD.out _).mono ?_
      rintro e w1 ⟨rfl, n, hw⟩; rw [hw]; clear hw w1
      go_wp2_with fail
      refine (SA.out _).mono ?_
      rintro e w1 ⟨rfl, hw⟩; rw [hw]; clear hw w1
      go_wp2_with fail
      refine (SB.out _).mono ?_
      rintro e w1 ⟨rfl, hw⟩; rw [hw]; clear hw w1
      go_wp2_with fail
      go_ret
      exact ⟨rfl, _, rfl⟩
    cases hcc : smB c
    · rw [ha] at sa
      rw [hb] at sb
      rw [hcc] at sc
      have SA : Hid (∀ w, Calls Try.prog 16 #[.int .i64 a] w fun e w' => e = .returned (.bool true) ∧ w' = w) := sa
      have SB : Hid (∀ w, Calls Try.prog 16 #[.int .i64 b] w fun e w' => e = .returned (.bool true) ∧ w' = w) := sb
      have SC : Hid (∀ w, Calls Try.prog 16 #[.int .i64 c] w fun e w' => e = .returned (.bool false) ∧ w' = w) := sc
      clear sa sb sc hs ha hb hcc
      go_enter Try.func6, Try.ntmps6
      go_wp2_with fail
      refine (DD.out _).mono ?_
      rintro e w1 ⟨rfl, n, hw⟩; rw [hw]; clear hw w1
      go_wp2_with fail
      refine (SA.out _).mono ?_
      rintro e w1 ⟨rfl, hw⟩; rw [hw]; clear hw w1
      go_wp2_with fail
      refine (SB.out _).mono ?_
      rintro e w1 ⟨rfl, hw⟩; rw [hw]; clear hw w1
      go_wp2_with fail
      refine (SC.out _).mono ?_
      rintro e w1 ⟨rfl, hw⟩; rw [hw]; clear hw w1
      go_wp2_with fail
      go_ret
      exact ⟨rfl, _, rfl⟩
    exact absurd ⟨ha, hb, hcc⟩ hs

theorem floorRest_any (a b c : Int) (a0 : -9223372036854775808 ≤ a) (a1 : a ≤ 9223372036854775807) (b0 : -9223372036854775808 ≤ b) (b1 : b ≤ 9223372036854775807) (c0 : -9223372036854775808 ≤ c) (c1 : c ≤ 9223372036854775807) (w : World) :
    Calls Try.prog 6 #[.int .i64 a, .int .i64 b, .int .i64 c] w fun e w' => e = .returned (.bool true) ∧ ∃ n, w' = w.drewN n := by
  cases hk : flOk a b c
  · exact floorRest_no a b c a0 a1 b0 b1 c0 c1 hk w
  · exact floorRest_yes a b c a0 a1 b0 b1 c0 c1 hk w

theorem floorRest_grown (a b c : Int) (a0 : -9223372036854775808 ≤ a) (a1 : a ≤ 9223372036854775807) (b0 : -9223372036854775808 ≤ b) (b1 : b ≤ 9223372036854775807) (c0 : -9223372036854775808 ≤ c) (c1 : c ≤ 9223372036854775807) (w : World) :
    Calls Try.prog 6 #[.int .i64 a, .int .i64 b, .int .i64 c] w fun e w' => e = .returned (.bool true) ∧ Grown w w' :=
  (floorRest_any a b c a0 a1 b0 b1 c0 c1 w).mono fun e w' ⟨he, n, hw⟩ => ⟨he, by rw [hw]; exact Grown.refl w⟩
end Go.Proofs.Ytjlkcceaagecpaa
