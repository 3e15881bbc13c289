/-
  Ours: the contract of money.divide.
-/
import Derived.Test.YtgdmkcbbomfmdaaGreatDoorDiv64
import Derived.Test.YtgdmkcbbomfmdaaGreatDoorShelf
import Derived.Laws.Bits64b
namespace Go.Proofs.YtgdmkcbbomfmdaaGreatDoor
open Go.RowKit

namespace Norm
theorem len_aux : ∀ (f x : Nat), x < 2 ^ f → 0 < x → 0 < Lib.bitLenAux f x ∧ 2 ^ (Lib.bitLenAux f x - 1) ≤ x ∧ x < 2 ^ Lib.bitLenAux f x ∧ Lib.bitLenAux f x ≤ f
  | 0, x, h, h0 => by simp at h; omega
  | f + 1, x, h, h0 => by
    rw [Lib.bitLenAux, if_neg (by omega)]
    by_cases hx : x / 2 = 0
    · have : Lib.bitLenAux f (x / 2) = 0 := by rw [hx]; cases f <;> simp [Lib.bitLenAux]
      rw [this]
      have : x = 1 := by omega
      subst this
      simp
    · obtain ⟨a, b, c, d⟩ := len_aux f (x / 2) (by rw [Nat.pow_succ] at h; omega) (by omega)
      obtain ⟨k, hk⟩ : ∃ k, Lib.bitLenAux f (x / 2) = k + 1 := ⟨_, (Nat.sub_add_cancel a).symm⟩
      rw [hk] at a b c d ⊢
      rw [show 1 + (k + 1) - 1 = k + 1 from by omega, show 1 + (k + 1) = k + 2 from by omega]
      have b' : 2 ^ k ≤ x / 2 := b
      rw [Nat.pow_succ] at c
      refine ⟨by omega, ?_, ?_, by omega⟩
      · rw [Nat.pow_succ]; omega
      · rw [Nat.pow_succ, Nat.pow_succ]; omega

theorem len (x : Nat) (h : x < 18446744073709551616) (h0 : 0 < x) : 0 < Lib.bitLen x ∧ 2 ^ (Lib.bitLen x - 1) ≤ x ∧ x < 2 ^ Lib.bitLen x ∧ Lib.bitLen x ≤ 64 := len_aux 64 x h h0

/-- The divisor, moved to the word's top. -/
theorem top (y s : Nat) (h : y < 18446744073709551616) (h0 : 0 < y) (hs : s = 64 - Lib.bitLen y) : s ≤ 63 ∧ 9223372036854775808 ≤ y * 2 ^ s ∧ y * 2 ^ s < 18446744073709551616 := by
  obtain ⟨a, b, c, d⟩ := len y h h0
  subst hs
  refine ⟨by omega, ?_, ?_⟩
  · have : 2 ^ (Lib.bitLen y - 1) * 2 ^ (64 - Lib.bitLen y) ≤ y * 2 ^ (64 - Lib.bitLen y) := Nat.mul_le_mul_right _ b
    rw [← Nat.pow_add, show Lib.bitLen y - 1 + (64 - Lib.bitLen y) = 63 from by omega] at this
    exact this
  · have : y * 2 ^ (64 - Lib.bitLen y) < 2 ^ Lib.bitLen y * 2 ^ (64 - Lib.bitLen y) := Nat.mul_lt_mul_of_pos_right c (Nat.two_pow_pos _)
    rw [← Nat.pow_add, show Lib.bitLen y + (64 - Lib.bitLen y) = 64 from by omega] at this
    exact this

/-- The dividend, moved along: its two words. -/
theorem moved (hi lo s : Nat) (hl : lo < 18446744073709551616) (hs : s ≤ 63) :
    (hi * 2 ^ s + lo / 2 ^ (64 - s)) * 18446744073709551616 + lo * 2 ^ s % 18446744073709551616 = (hi * 18446744073709551616 + lo) * 2 ^ s ∧ lo / 2 ^ (64 - s) < 2 ^ s := by
  have e : (2 : Nat) ^ (64 - s) * 2 ^ s = 18446744073709551616 := by rw [← Nat.pow_add, show 64 - s + s = 64 from by omega]
  have d := Nat.div_add_mod lo (2 ^ (64 - s))
  have p := Nat.two_pow_pos s
  have p2 := Nat.two_pow_pos (64 - s)
  have l : lo / 2 ^ (64 - s) < 2 ^ s := Nat.div_lt_of_lt_mul (by rw [e]; exact hl)
  have m : lo % 2 ^ (64 - s) < 2 ^ (64 - s) := Nat.mod_lt _ p2
  have m2 : lo % 2 ^ (64 - s) * 2 ^ s < 18446744073709551616 := by rw [← e]; exact Nat.mul_lt_mul_of_pos_right m p
  have k : lo * 2 ^ s = 18446744073709551616 * (lo / 2 ^ (64 - s)) + lo % 2 ^ (64 - s) * 2 ^ s := by
    have : lo * 2 ^ s = (2 ^ (64 - s) * (lo / 2 ^ (64 - s)) + lo % 2 ^ (64 - s)) * 2 ^ s := by rw [d]
    rw [this, Nat.add_mul, Nat.mul_right_comm, e]
  have k2 : lo * 2 ^ s % 18446744073709551616 = lo % 2 ^ (64 - s) * 2 ^ s := by
    rw [k, Nat.mul_add_mod]; exact Nat.mod_eq_of_lt m2
  refine ⟨?_, l⟩
  rw [k2]
  have e1 : (hi * 18446744073709551616 + lo) * 2 ^ s = hi * 2 ^ s * 18446744073709551616 + lo * 2 ^ s := by
    rw [Nat.add_mul, Nat.mul_right_comm]
  rw [e1, k]
  generalize hi * 2 ^ s = a at *
  generalize lo / 2 ^ (64 - s) = b at *
  generalize lo % 2 ^ (64 - s) * 2 ^ s = c at *
  omega

theorem joined (a b s : Nat) (h : b < 2 ^ s) (ha : a * 2 ^ s < 18446744073709551616) (hb : b < 18446744073709551616) : bits BinOp.or .u64 ((a * 2 ^ s : Nat) : Int) (b : Int) = ((a * 2 ^ s + b : Nat) : Int) := by
  rw [bits_or_u64_nat _ _ ha hb, Nat.mul_comm a, Nat.two_pow_add_eq_or_of_lt h]

theorem masked (a : Nat) (ha : a < 18446744073709551616) : bits BinOp.and .u64 (a : Int) 4294967295 = ((a % 4294967296 : Nat) : Int) := by
  have h := bits_and_u64_nat a 4294967295 ha (by omega)
  have e : a &&& 4294967295 = a % 4294967296 := Nat.and_two_pow_sub_one_eq_mod a 32
  rw [e] at h
  exact h
end Norm

theorem ret2 {k l : IntKind} {a b c d : Int} (h : a = c) (h' : b = d) : Ending.returned (.tuple #[.int k a, .int l b]) = .returned (.tuple #[.int k c, .int l d]) := by rw [h, h']

theorem div64_nat (hi lo y : Nat) (k0 : 0 < hi) (h1 : lo < 18446744073709551616) (y0 : hi < y) (y1 : y < 18446744073709551616) (w : World) :
    Calls Tryz.prog 138 #[.int .u64 hi, .int .u64 lo, .int .u64 y] w fun e w' =>
      e = .returned (.tuple #[.int .u64 (((hi * 18446744073709551616 + lo) / y : Nat) : Int), .int .u64 (((hi * 18446744073709551616 + lo) % y : Nat) : Int)]) ∧ w' = w := by
  obtain ⟨s, hs⟩ : ∃ s, s = 64 - Lib.bitLen y := ⟨_, rfl⟩
  obtain ⟨s1, Y0, Y1⟩ := Norm.top y s y1 (by omega) hs
  obtain ⟨mv, ll⟩ := Norm.moved hi lo s h1 s1
  have bl := (Norm.len y y1 (by omega)).2.2.2
  have p := Nat.two_pow_pos s
  have hy : hi * 2 ^ s + lo / 2 ^ (64 - s) < y * 2 ^ s := by
    have : (hi + 1) * 2 ^ s ≤ y * 2 ^ s := Nat.mul_le_mul_right _ y0
    rw [Nat.add_mul, Nat.one_mul] at this
    omega
  have pw : ((2 : Int) ^ s) = ((2 ^ s : Nat) : Int) := by simp
  have pw2 : ((2 : Int) ^ (64 - s)) = ((2 ^ (64 - s) : Nat) : Int) := by simp
  have ts : ((s : Int)).toNat = s := by omega
  have ts2 : (64 - (s : Int)).toNat = 64 - s := by omega
  have l64 : lo / 2 ^ (64 - s) < 18446744073709551616 := Nat.lt_of_le_of_lt (Nat.div_le_self _ _) h1
  have h2 : hi * 2 ^ s < 18446744073709551616 := Nat.lt_of_le_of_lt (Nat.le_add_right _ _) (Nat.lt_trans hy Y1)
  have vv : lo * 2 ^ s % 18446744073709551616 < 18446744073709551616 := Nat.mod_lt _ (by omega)
  have core := div64_core hi lo y s ((y * 2 ^ s : Nat) : Int) ((y * 2 ^ s / 4294967296 : Nat) : Int) ((y * 2 ^ s % 4294967296 : Nat) : Int) ((hi * 2 ^ s + lo / 2 ^ (64 - s) : Nat) : Int)
    ((lo * 2 ^ s % 18446744073709551616 : Nat) : Int) ((lo * 2 ^ s % 18446744073709551616 / 4294967296 : Nat) : Int) ((lo * 2 ^ s % 18446744073709551616 % 4294967296 : Nat) : Int)
    (by omega) (by omega) (by omega) (by omega)
    (by rw [ts, pw, IntKind.wrap_u64, ← Int.natCast_mul]; omega) (by omega) (by omega) (by omega) (Norm.masked _ Y1)
    (by rw [ts, ts2, pw, pw2, IntKind.wrap_u64, ← Int.natCast_mul, ← Int.natCast_ediv]
        rw [show (((hi * 2 ^ s : Nat) : Int) % 18446744073709551616) = ((hi * 2 ^ s : Nat) : Int) from by omega]
        exact Norm.joined hi _ s ll h2 l64)
    (by rw [ts, pw, IntKind.wrap_u64, ← Int.natCast_mul]; omega) (by omega) (Norm.masked _ vv)
    ⟨by omega, by omega, by omega, by omega, by omega, by omega, by omega, by omega, by omega⟩ (by omega) (by omega) (by omega) (by omega)
    (fun w => (Tryz.bits_LeadingZeros64 y w (by omega) (by omega)).mono fun e w' ⟨he, hw⟩ => ⟨by rw [he]; exact ret_int (by rw [Int.toNat_natCast]; omega), hw⟩) w
  refine core.mono fun e w' ⟨he, hw⟩ => ⟨?_, hw⟩
  rw [he]
  have Yp : (0 : Int) < ((y * 2 ^ s : Nat) : Int) := by omega
  obtain ⟨t1, t2⟩ := Div.two_steps ((y * 2 ^ s : Nat) : Int) ((hi * 2 ^ s + lo / 2 ^ (64 - s) : Nat) : Int) ((lo * 2 ^ s % 18446744073709551616 / 4294967296 : Nat) : Int) ((lo * 2 ^ s % 18446744073709551616 % 4294967296 : Nat) : Int) Yp
  have e0 : ((hi * 2 ^ s + lo / 2 ^ (64 - s) : Nat) : Int) * 18446744073709551616 + ((lo * 2 ^ s % 18446744073709551616 / 4294967296 : Nat) : Int) * 4294967296 + ((lo * 2 ^ s % 18446744073709551616 % 4294967296 : Nat) : Int)
      = (((hi * 18446744073709551616 + lo) * 2 ^ s : Nat) : Int) := by
    rw [← mv]
    generalize hi * 2 ^ s + lo / 2 ^ (64 - s) = a at *
    generalize lo * 2 ^ s % 18446744073709551616 = b at *
    omega
  rw [e0] at t1 t2
  refine ret2 ?_ ?_
  · rw [← t1, ← Int.natCast_ediv, Nat.mul_div_mul_right _ _ p]
  · rw [← t2, ts, pw, ← Int.natCast_emod, ← Int.natCast_ediv, Nat.mul_mod_mul_right, Nat.mul_div_cancel _ p]

/-- Div64 at every dividend whose high word is below the divisor. -/
theorem div64_any (hi lo y : Nat) (h1 : lo < 18446744073709551616) (y0 : hi < y) (y1 : y < 18446744073709551616) (w : World) :
    Calls Tryz.prog 138 #[.int .u64 hi, .int .u64 lo, .int .u64 y] w fun e w' =>
      e = .returned (.tuple #[.int .u64 (((hi * 18446744073709551616 + lo) / y : Nat) : Int), .int .u64 (((hi * 18446744073709551616 + lo) % y : Nat) : Int)]) ∧ ∃ n, w' = w.drewN n := by
  by_cases k0 : 0 < hi
  · exact (div64_nat hi lo y k0 h1 y0 y1 w).mono fun e w' ⟨he, hw⟩ => ⟨he, 0, hw⟩
  · obtain rfl : hi = 0 := by omega
    refine (div64_low lo y (by omega) (by omega) (by omega) (by omega) w).mono fun e w' ⟨he, hw⟩ => ⟨?_, hw⟩
    rw [he]
    exact ret2 (by simp) (by simp)

end Go.Proofs.YtgdmkcbbomfmdaaGreatDoor

/-
  Ours: plain arithmetic on signs: a product of two numbers by their sizes; the floor and the rest by the sizes'. No Go in sight.
-/
namespace Go.Proofs.YtgdmkcbbomfmdaaGreatDoor.Signs

/-- Is exactly one of the two below 0? -/
def neg2 (a b : Int) : Bool := decide (a < 0) != decide (b < 0)

theorem prod (a b : Int) : a * b = if neg2 a b then -((a.natAbs * b.natAbs : Nat) : Int) else ((a.natAbs * b.natAbs : Nat) : Int) := by
  have e : ∀ x : Int, x = if x < 0 then -(x.natAbs : Int) else (x.natAbs : Int) := by intro x; split <;> omega
  rw [Int.natCast_mul]
  by_cases ha : a < 0 <;> by_cases hb : b < 0
  all_goals
    have e1 := e a
    have e2 := e b
    simp only [ha, hb, if_true, if_false] at e1 e2
    simp only [neg2, ha, hb, decide_true, decide_false, bne_self_eq_false, Bool.false_eq_true, if_false, bne_iff_ne, ne_eq, Bool.true_eq_false, not_false_eq_true, if_true]
    generalize (a.natAbs : Int) = A at *
    generalize (b.natAbs : Int) = B at *
    subst e1 e2
    first | rfl | rw [Int.neg_mul_neg] | rw [Int.neg_mul] | rw [Int.mul_neg]

theorem floor_up (P C : Nat) : ((P : Int)) / (C : Int) = ((P / C : Nat) : Int) ∧ (P : Int) % (C : Int) = ((P % C : Nat) : Int) := ⟨(Int.natCast_ediv _ _).symm, (Int.natCast_emod _ _).symm⟩

theorem floor_even (P C : Nat) (hC : 0 < C) (h : P % C = 0) : (-(P : Int)) / (C : Int) = -((P / C : Nat) : Int) ∧ (-(P : Int)) % (C : Int) = 0 := by
  refine (Int.ediv_emod_unique (by omega)).2 ⟨?_, by omega, by omega⟩
  have d := Nat.div_add_mod P C
  rw [h] at d
  have : (P : Int) = (C : Int) * ((P / C : Nat) : Int) := by rw [← Int.natCast_mul]; omega
  rw [Int.mul_neg, ← this]; omega

theorem floor_down (P C : Nat) (hC : 0 < C) (h : 0 < P % C) : (-(P : Int)) / (C : Int) = -(((P / C + 1 : Nat)) : Int) ∧ (-(P : Int)) % (C : Int) = ((C - P % C : Nat) : Int) := by
  have l := Nat.mod_lt P hC
  refine (Int.ediv_emod_unique (by omega)).2 ⟨?_, by omega, by omega⟩
  have d := Nat.div_add_mod P C
  have : (P : Int) = (C : Int) * ((P / C : Nat) : Int) + ((P % C : Nat) : Int) := by rw [← Int.natCast_mul]; omega
  rw [Int.mul_neg, Int.natCast_add, Int.mul_add]
  generalize (C : Int) * ((P / C : Nat) : Int) = z at *
  omega

end Go.Proofs.YtgdmkcbbomfmdaaGreatDoor.Signs

namespace Go.Proofs.YtgdmkcbbomfmdaaGreatDoor
open Go.RowKit

/-- The product's size over the divisor's size: may money.divide answer? -/
def dvOk (P C : Nat) : Bool := decide (0 < C ∧ P / C ≤ 9223372036854775808)
def dvQ (P C : Nat) : Nat := if dvOk P C then P / C else 0
def dvR (P C : Nat) : Nat := if dvOk P C then P % C else 0

theorem ret3 {k l : IntKind} {a b c d : Int} {p q : Bool} (h : a = c) (h' : b = d) (h'' : p = q) : Ending.returned (.tuple #[.int k a, .int l b, .bool p]) = .returned (.tuple #[.int k c, .int l d, .bool q]) := by rw [h, h', h'']

theorem mul64_at (A B H L : Nat) (hA : A < 18446744073709551616) (hB : B < 18446744073709551616) (hH : A * B / 18446744073709551616 = H) (hL : A * B % 18446744073709551616 = L) (w : World) :
    Calls Tryz.prog 137 #[.int .u64 A, .int .u64 B] w fun e w' => e = .returned (.tuple #[.int .u64 (H : Int), .int .u64 (L : Int)]) ∧ w' = w := by
  refine (Tryz.bits_Mul64 A B hA hB w).mono fun e w' ⟨he, hw⟩ => ⟨?_, hw⟩
  rw [he, hH, hL]
theorem div64_at (hi lo y Q R : Nat) (h1 : lo < 18446744073709551616) (y0 : hi < y) (y1 : y < 18446744073709551616) (hQ : (hi * 18446744073709551616 + lo) / y = Q) (hR : (hi * 18446744073709551616 + lo) % y = R) (w : World) :
    Calls Tryz.prog 138 #[.int .u64 hi, .int .u64 lo, .int .u64 y] w fun e w' => e = .returned (.tuple #[.int .u64 (Q : Int), .int .u64 (R : Int)]) ∧ ∃ n, w' = w.drewN n := by
  refine (div64_any hi lo y h1 y0 y1 w).mono fun e w' ⟨he, hw⟩ => ⟨?_, hw⟩
  rw [he, hQ, hR]

set_option maxHeartbeats 400000 in
theorem divide_any (a b c : Int) (a0 : -9223372036854775808 ≤ a) (a1 : a ≤ 9223372036854775807) (b0 : -9223372036854775808 ≤ b) (b1 : b ≤ 9223372036854775807) (c0 : -9223372036854775808 ≤ c) (c1 : c ≤ 9223372036854775807) (w : World) :
    Calls Tryz.prog 126 #[.int .i64 a, .int .i64 b, .int .i64 c] w fun e w' =>
      e = .returned (.tuple #[.int .u64 (dvQ (a.natAbs * b.natAbs) c.natAbs : Int), .int .u64 (dvR (a.natAbs * b.natAbs) c.natAbs : Int), .bool (dvOk (a.natAbs * b.natAbs) c.natAbs)]) ∧ ∃ n, w' = w.drewN n := by
  obtain ⟨A, hA⟩ : ∃ A, a.natAbs = A := ⟨_, rfl⟩
  obtain ⟨B, hB⟩ : ∃ B, b.natAbs = B := ⟨_, rfl⟩
  obtain ⟨C, hC⟩ : ∃ C, c.natAbs = C := ⟨_, rfl⟩
  have A1 : A ≤ 9223372036854775808 := by omega
  have B1 : B ≤ 9223372036854775808 := by omega
  have C1 : C ≤ 9223372036854775808 := by omega
  have sa := fun w => size_any a a0 a1 w
  have sb := fun w => size_any b b0 b1 w
  have sc := fun w => size_any c c0 c1 w
  rw [hA] at sa
  rw [hB] at sb
  rw [hC] at sc
  rw [hA, hB, hC]
  clear hA hB hC
  have SA : Hid (∀ w, Calls Tryz.prog 127 #[.int .i64 a] w fun e w' => e = .returned (.int .u64 (A : Int)) ∧ w' = w) := sa
  have SB : Hid (∀ w, Calls Tryz.prog 127 #[.int .i64 b] w fun e w' => e = .returned (.int .u64 (B : Int)) ∧ w' = w) := sb
  have SC : Hid (∀ w, Calls Tryz.prog 127 #[.int .i64 c] w fun e w' => e = .returned (.int .u64 (C : Int)) ∧ w' = w) := sc
  clear sa sb sc
  obtain ⟨H, hH⟩ : ∃ H, A * B / 18446744073709551616 = H := ⟨_, rfl⟩
  obtain ⟨L, hL⟩ : ∃ L, A * B % 18446744073709551616 = L := ⟨_, rfl⟩
  have hP : H * 18446744073709551616 + L = A * B := by omega
  have L1 : L < 18446744073709551616 := by omega
  have M := fun w => mul64_at A B H L (by omega) (by omega) hH hL w
  have MM : Hid (∀ w, Calls Tryz.prog 137 #[.int .u64 A, .int .u64 B] w fun e w' => e = .returned (.tuple #[.int .u64 (H : Int), .int .u64 (L : Int)]) ∧ w' = w) := M
  clear M
  by_cases hc : C ≤ H
  · have e1 : dvOk (A * B) C = false := by
      unfold dvOk
      rw [decide_eq_false_iff_not]
      rintro ⟨p, q⟩
      have : A * B < (9223372036854775808 + 1) * C := (Nat.div_lt_iff_lt_mul p).1 (by omega)
      omega
    have e2 : dvQ (A * B) C = 0 := by simp [dvQ, e1]
    have e3 : dvR (A * B) C = 0 := by simp [dvR, e1]
    rw [e1, e2, e3]
    clear e1 e2 e3 hH hL hP
    have hc' : (C : Int) ≤ (H : Int) := by omega
    go_enter Tryz.func126, Tryz.ntmps126
    go_wp2_with fail
    refine (SA.out _).mono ?_
    rintro e w1 ⟨rfl, hw⟩; rw [hw]; clear hw w1
    go_wp2_with fail
    refine (SB.out _).mono ?_
    rintro e w1 ⟨rfl, hw⟩; rw [hw]; clear hw w1
    go_wp2_with fail
    refine (MM.out _).mono ?_
    rintro e w1 ⟨rfl, hw⟩; rw [hw]; clear hw w1
    go_wp2_with fail
    refine (SC.out _).mono ?_
    rintro e w1 ⟨rfl, hw⟩; rw [hw]; clear hw w1
    go_wp2_with fail
    go_ret3
    exact ⟨rfl, 0, rfl⟩
  · obtain ⟨Q, hQ⟩ : ∃ Q, (H * 18446744073709551616 + L) / C = Q := ⟨_, rfl⟩
    obtain ⟨R, hR⟩ : ∃ R, (H * 18446744073709551616 + L) % C = R := ⟨_, rfl⟩
    have D := fun w => div64_at H L C Q R L1 (by omega) (by omega) hQ hR w
    have DD : Hid (∀ w, Calls Tryz.prog 138 #[.int .u64 H, .int .u64 L, .int .u64 C] w fun e w' => e = .returned (.tuple #[.int .u64 (Q : Int), .int .u64 (R : Int)]) ∧ ∃ n, w' = w.drewN n) := D
    clear D
    rw [hP] at hQ hR
    have hc' : (H : Int) < (C : Int) := by omega
    have C0 : 0 < C := by omega
    by_cases hq : Q ≤ 9223372036854775808
    · have e1 : dvOk (A * B) C = true := by
        unfold dvOk
        rw [hQ, decide_eq_true_iff]
        exact ⟨C0, hq⟩
      have e2 : dvQ (A * B) C = Q := by simp [dvQ, e1, hQ]
      have e3 : dvR (A * B) C = R := by simp [dvR, e1, hR]
      rw [e1, e2, e3]
      clear e1 e2 e3 hH hL hP hQ hR hc
      have hq' : (Q : Int) ≤ 9223372036854775808 := by omega
      go_enter Tryz.func126, Tryz.ntmps126
      go_wp2_with fail
      refine (SA.out _).mono ?_
      rintro e w1 ⟨rfl, hw⟩; rw [hw]; clear hw w1
      go_wp2_with fail
      refine (SB.out _).mono ?_
      rintro e w1 ⟨rfl, hw⟩; rw [hw]; clear hw w1
      go_wp2_with fail
      refine (MM.out _).mono ?_
      rintro e w1 ⟨rfl, hw⟩; rw [hw]; clear hw w1
      go_wp2_with fail
      refine (SC.out _).mono ?_
      rintro e w1 ⟨rfl, hw⟩; rw [hw]; clear hw w1
      go_wp2_with fail
      refine (SC.out _).mono ?_
      rintro e w1 ⟨rfl, hw⟩; rw [hw]; clear hw w1
      go_wp2_with fail
      refine (DD.out _).mono ?_
      rintro e w1 ⟨rfl, n, hw⟩; rw [hw]; clear hw w1
      go_wp2_with fail
      go_ret3
      exact ⟨rfl, _, rfl⟩
    · have e1 : dvOk (A * B) C = false := by
        unfold dvOk
        rw [hQ, decide_eq_false_iff_not]
        exact fun h => hq h.2
      have e2 : dvQ (A * B) C = 0 := by simp [dvQ, e1]
      have e3 : dvR (A * B) C = 0 := by simp [dvR, e1]
      rw [e1, e2, e3]
      clear e1 e2 e3 hH hL hP hQ hR hc
      have hq' : 9223372036854775808 < (Q : Int) := by omega
      go_enter Tryz.func126, Tryz.ntmps126
      go_wp2_with fail
      refine (SA.out _).mono ?_
      rintro e w1 ⟨rfl, hw⟩; rw [hw]; clear hw w1
      go_wp2_with fail
      refine (SB.out _).mono ?_
      rintro e w1 ⟨rfl, hw⟩; rw [hw]; clear hw w1
      go_wp2_with fail
      refine (MM.out _).mono ?_
      rintro e w1 ⟨rfl, hw⟩; rw [hw]; clear hw w1
      go_wp2_with fail
      refine (SC.out _).mono ?_
      rintro e w1 ⟨rfl, hw⟩; rw [hw]; clear hw w1
      go_wp2_with fail
      refine (SC.out _).mono ?_
      rintro e w1 ⟨rfl, hw⟩; rw [hw]; clear hw w1
      go_wp2_with fail
      refine (DD.out _).mono ?_
      rintro e w1 ⟨rfl, n, hw⟩; rw [hw]; clear hw w1
      go_wp2_with fail
      go_ret3
      exact ⟨rfl, _, rfl⟩

end Go.Proofs.YtgdmkcbbomfmdaaGreatDoor
