/-
  Ours: the contract of money.divide.
-/
import Derived.Test.YtcjmjbhbdojeiabDiv64b
import Derived.Test.YtcjmjbhbdojeiabSigns
namespace Go.Proofs.Ytcjmjbhbdojeiab
open Go.RowKit

/-- The product's size over the divisor's size: may money.divide answer? -/
def dvOk (P C : Nat) : Bool := decide (0 < C ∧ P / C ≤ 9223372036854775808)
def dvQ (P C : Nat) : Nat := if dvOk P C then P / C else 0
def dvR (P C : Nat) : Nat := if dvOk P C then P % C else 0

theorem ret3 {k l : IntKind} {a b c d : Int} {p q : Bool} (h : a = c) (h' : b = d) (h'' : p = q) : Ending.returned (.tuple #[.int k a, .int l b, .bool p]) = .returned (.tuple #[.int k c, .int l d, .bool q]) := by rw [h, h', h'']

theorem mul64_at (A B H L : Nat) (hA : A < 18446744073709551616) (hB : B < 18446744073709551616) (hH : A * B / 18446744073709551616 = H) (hL : A * B % 18446744073709551616 = L) (w : World) :
    Calls Try.prog 60 #[.int .u64 A, .int .u64 B] w fun e w' => e = .returned (.tuple #[.int .u64 (H : Int), .int .u64 (L : Int)]) ∧ w' = w := by
  refine (Try.bits_Mul64 A B hA hB w).mono fun e w' ⟨he, hw⟩ => ⟨?_, hw⟩
  rw [he, hH, hL]
theorem div64_at (hi lo y Q R : Nat) (h1 : lo < 18446744073709551616) (y0 : hi < y) (y1 : y < 18446744073709551616) (hQ : (hi * 18446744073709551616 + lo) / y = Q) (hR : (hi * 18446744073709551616 + lo) % y = R) (w : World) :
    Calls Try.prog 61 #[.int .u64 hi, .int .u64 lo, .int .u64 y] w fun e w' => e = .returned (.tuple #[.int .u64 (Q : Int), .int .u64 (R : Int)]) ∧ ∃ n, w' = w.drewN n := by
  refine (div64_any hi lo y h1 y0 y1 w).mono fun e w' ⟨he, hw⟩ => ⟨?_, hw⟩
  rw [he, hQ, hR]

set_option maxHeartbeats 400000 in
theorem divide_any (a b c : Int) (a0 : -9223372036854775808 ≤ a) (a1 : a ≤ 9223372036854775807) (b0 : -9223372036854775808 ≤ b) (b1 : b ≤ 9223372036854775807) (c0 : -9223372036854775808 ≤ c) (c1 : c ≤ 9223372036854775807) (w : World) :
    Calls Try.prog 29 #[.int .i64 a, .int .i64 b, .int .i64 c] w fun e w' =>
      e = .returned (.tuple #[.int .u64 (dvQ (a.natAbs * b.natAbs) c.natAbs : Int), .int .u64 (dvR (a.natAbs * b.natAbs) c.natAbs : Int), .bool (dvOk (a.natAbs * b.natAbs) c.natAbs)]) ∧ ∃ n, w' = w.drewN n := by
  obtain ⟨A, hA⟩ : ∃ A, a.natAbs = A := ⟨_, rfl⟩
  obtain ⟨B, hB⟩ : ∃ B, b.natAbs = B := ⟨_, rfl⟩
  obtain ⟨C, hC⟩ : ∃ C, c.natAbs = C := ⟨_, rfl⟩
  have A1 : A ≤ 9223372036854775808 := by omega
  have B1 : B ≤ 9223372036854775808 := by omega
  have C1 : C ≤ 9223372036854775808 := by omega
  have sa := fun w => size_any a a0 a1 w
  have sb := fun w => size_any b b0 b1 w
  have sc := fun w => size_any c c0 c1 w
  rw [hA] at sa
  rw [hB] at sb
  rw [hC] at sc
  rw [hA, hB, hC]
  clear hA hB hC
  have SA : Hid (∀ w, Calls Try.prog 30 #[.int .i64 a] w fun e w' => e = .returned (.int .u64 (A : Int)) ∧ w' = w) := sa
  have SB : Hid (∀ w, Calls Try.prog 30 #[.int .i64 b] w fun e w' => e = .returned (.int .u64 (B : Int)) ∧ w' = w) := sb
  have SC : Hid (∀ w, Calls Try.prog 30 #[.int .i64 c] w fun e w' => e = .returned (.int .u64 (C : Int)) ∧ w' = w) := sc
  clear sa sb sc
  obtain ⟨H, hH⟩ : ∃ H, A * B / 18446744073709551616 = H := ⟨_, rfl⟩
  obtain ⟨L, hL⟩ : ∃ L, A * B % 18446744073709551616 = L := ⟨_, rfl⟩
  have hP : H * 18446744073709551616 + L = A * B := by omega
  have L1 : L < 18446744073709551616 := by omega
  have M := fun w => mul64_at A B H L (by omega) (by omega) hH hL w
  have MM : Hid (∀ w, Calls Try.prog 60 #[.int .u64 A, .int .u64 B] w fun e w' => e = .returned (.tuple #[.int .u64 (H : Int), .int .u64 (L : Int)]) ∧ w' = w) := M
  clear M
  by_cases hc : C ≤ H
  · have e1 : dvOk (A * B) C = false := by
      unfold dvOk
      rw [decide_eq_false_iff_not]
      rintro ⟨p, q⟩
      have : A * B < (9223372036854775808 + 1) * C := (Nat.div_lt_iff_lt_mul p).1 (by omega)
      omega
    have e2 : dvQ (A * B) C = 0 := by simp [dvQ, e1]
    have e3 : dvR (A * B) C = 0 := by simp [dvR, e1]
    rw [e1, e2, e3]
    clear e1 e2 e3 hH hL hP
    have hc' : (C : Int) ≤ (H : Int) := by omega
    go_enter Try.func29, Try.ntmps29
    go_wp2_with fail
    refine (SA.out _).mono ?_
    rintro e w1 ⟨rfl, hw⟩; rw [hw]; clear hw w1
    go_wp2_with fail
    refine (SB.out _).mono ?_
    rintro e w1 ⟨rfl, hw⟩; rw [hw]; clear hw w1
    go_wp2_with fail
    refine (MM.out _).mono ?_
    rintro e w1 ⟨rfl, hw⟩; rw [hw]; clear hw w1
    go_wp2_with fail
    refine (SC.out _).mono ?_
    rintro e w1 ⟨rfl, hw⟩; rw [hw]; clear hw w1
    go_wp2_with fail
    go_ret3
    exact ⟨rfl, 0, rfl⟩
  · obtain ⟨Q, hQ⟩ : ∃ Q, (H * 18446744073709551616 + L) / C = Q := ⟨_, rfl⟩
    obtain ⟨R, hR⟩ : ∃ R, (H * 18446744073709551616 + L) % C = R := ⟨_, rfl⟩
    have D := fun w => div64_at H L C Q R L1 (by omega) (by omega) hQ hR w
    have DD : Hid (∀ w, Calls Try.prog 61 #[.int .u64 H, .int .u64 L, .int .u64 C] w fun e w' => e = .returned (.tuple #[.int .u64 (Q : Int), .int .u64 (R : Int)]) ∧ ∃ n, w' = w.drewN n) := D
    clear D
    rw [hP] at hQ hR
    have hc' : (H : Int) < (C : Int) := by omega
    have C0 : 0 < C := by omega
    by_cases hq : Q ≤ 9223372036854775808
    · have e1 : dvOk (A * B) C = true := by
        unfold dvOk
        rw [hQ, decide_eq_true_iff]
        exact ⟨C0, hq⟩
      have e2 : dvQ (A * B) C = Q := by simp [dvQ, e1, hQ]
      have e3 : dvR (A * B) C = R := by simp [dvR, e1, hR]
      rw [e1, e2, e3]
      clear e1 e2 e3 hH hL hP hQ hR hc
      have hq' : (Q : Int) ≤ 9223372036854775808 := by omega
      go_enter Try.func29, Try.ntmps29
      go_wp2_with fail
      refine (SA.out _).mono ?_
      rintro e w1 ⟨rfl, hw⟩; rw [hw]; clear hw w1
      go_wp2_with fail
      refine (SB.out _).mono ?_
      rintro e w1 ⟨rfl, hw⟩; rw [hw]; clear hw w1
      go_wp2_with fail
      refine (MM.out _).mono ?_
      rintro e w1 ⟨rfl, hw⟩; rw [hw]; clear hw w1
      go_wp2_with fail
      refine (SC.out _).mono ?_
      rintro e w1 ⟨rfl, hw⟩; rw [hw]; clear hw w1
      go_wp2_with fail
      refine (SC.out _).mono ?_
      rintro e w1 ⟨rfl, hw⟩; rw [hw]; clear hw w1
      go_wp2_with fail
      refine (DD.out _).mono ?_
      rintro e w1 ⟨rfl, n, hw⟩; rw [hw]; clear hw w1
      go_wp2_with fail
      go_ret3
      exact ⟨rfl, _, rfl⟩
    · have e1 : dvOk (A * B) C = false := by
        unfold dvOk
        rw [hQ, decide_eq_false_iff_not]
        exact fun h => hq h.2
      have e2 : dvQ (A * B) C = 0 := by simp [dvQ, e1]
      have e3 : dvR (A * B) C = 0 := by simp [dvR, e1]
      rw [e1, e2, e3]
      clear e1 e2 e3 hH hL hP hQ hR hc
      have hq' : 9223372036854775808 < (Q : Int) := by omega
      go_enter Try.func29, Try.ntmps29
      go_wp2_with fail
      refine (SA.out _).mono ?_
      rintro e w1 ⟨rfl, hw⟩; rw [hw]; clear hw w1
      go_wp2_with fail
      refine (SB.out _).mono ?_
      rintro e w1 ⟨rfl, hw⟩; rw [hw]; clear hw w1
      go_wp2_with fail
      refine (MM.out _).mono ?_
      rintro e w1 ⟨rfl, hw⟩; rw [hw]; clear hw w1
      go_wp2_with fail
      refine (SC.out _).mono ?_
      rintro e w1 ⟨rfl, hw⟩; rw [hw]; clear hw w1
      go_wp2_with fail
      refine (SC.out _).mono ?_
      rintro e w1 ⟨rfl, hw⟩; rw [hw]; clear hw w1
      go_wp2_with fail
      refine (DD.out _).mono ?_
      rintro e w1 ⟨rfl, n, hw⟩; rw [hw]; clear hw w1
      go_wp2_with fail
      go_ret3
      exact ⟨rfl, _, rfl⟩

end Go.Proofs.Ytcjmjbhbdojeiab
