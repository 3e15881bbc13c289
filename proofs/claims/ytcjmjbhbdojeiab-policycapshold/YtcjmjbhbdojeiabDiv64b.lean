/-
  Ours: math/bits.Div64 at every dividend whose high word is below the divisor: quotient and rest of the 128-bit number.
-/
import Derived.Test.YtcjmjbhbdojeiabDiv64
import Derived.Test.YtcjmjbhbdojeiabShelf
import Derived.Laws.Bits64b
namespace Go.Proofs.Ytcjmjbhbdojeiab
open Go.RowKit

namespace Norm
theorem len_aux : ∀ (f x : Nat), x < 2 ^ f → 0 < x → 0 < Lib.bitLenAux f x ∧ 2 ^ (Lib.bitLenAux f x - 1) ≤ x ∧ x < 2 ^ Lib.bitLenAux f x ∧ Lib.bitLenAux f x ≤ f
  | 0, x, h, h0 => by simp at h; omega
  | f + 1, x, h, h0 => by
    rw [Lib.bitLenAux, if_neg (by omega)]
    by_cases hx : x / 2 = 0
    · have : Lib.bitLenAux f (x / 2) = 0 := by rw [hx]; cases f <;> simp [Lib.bitLenAux]
      rw [this]
      have : x = 1 := by omega
      subst this
      simp
    · obtain ⟨a, b, c, d⟩ := len_aux f (x / 2) (by rw [Nat.pow_succ] at h; omega) (by omega)
      obtain ⟨k, hk⟩ : ∃ k, Lib.bitLenAux f (x / 2) = k + 1 := ⟨_, (Nat.sub_add_cancel a).symm⟩
      rw [hk] at a b c d ⊢
      rw [show 1 + (k + 1) - 1 = k + 1 from by omega, show 1 + (k + 1) = k + 2 from by omega]
      have b' : 2 ^ k ≤ x / 2 := b
      rw [Nat.pow_succ] at c
      refine ⟨by omega, ?_, ?_, by omega⟩
      · rw [Nat.pow_succ]; omega
      · rw [Nat.pow_succ, Nat.pow_succ]; omega

theorem len (x : Nat) (h : x < 18446744073709551616) (h0 : 0 < x) : 0 < Lib.bitLen x ∧ 2 ^ (Lib.bitLen x - 1) ≤ x ∧ x < 2 ^ Lib.bitLen x ∧ Lib.bitLen x ≤ 64 := len_aux 64 x h h0

/-- The divisor, moved to the word's top. -/
theorem top (y s : Nat) (h : y < 18446744073709551616) (h0 : 0 < y) (hs : s = 64 - Lib.bitLen y) : s ≤ 63 ∧ 9223372036854775808 ≤ y * 2 ^ s ∧ y * 2 ^ s < 18446744073709551616 := by
  obtain ⟨a, b, c, d⟩ := len y h h0
  subst hs
  refine ⟨by omega, ?_, ?_⟩
  · have : 2 ^ (Lib.bitLen y - 1) * 2 ^ (64 - Lib.bitLen y) ≤ y * 2 ^ (64 - Lib.bitLen y) := Nat.mul_le_mul_right _ b
    rw [← Nat.pow_add, show Lib.bitLen y - 1 + (64 - Lib.bitLen y) = 63 from by omega] at this
    exact this
  · have : y * 2 ^ (64 - Lib.bitLen y) < 2 ^ Lib.bitLen y * 2 ^ (64 - Lib.bitLen y) := Nat.mul_lt_mul_of_pos_right c (Nat.two_pow_pos _)
    rw [← Nat.pow_add, show Lib.bitLen y + (64 - Lib.bitLen y) = 64 from by omega] at this
    exact this

/-- The dividend, moved along: its two words. -/
theorem moved (hi lo s : Nat) (hl : lo < 18446744073709551616) (hs : s ≤ 63) :
    (hi * 2 ^ s + lo / 2 ^ (64 - s)) * 18446744073709551616 + lo * 2 ^ s % 18446744073709551616 = (hi * 18446744073709551616 + lo) * 2 ^ s ∧ lo / 2 ^ (64 - s) < 2 ^ s := by
  have e : (2 : Nat) ^ (64 - s) * 2 ^ s = 18446744073709551616 := by rw [← Nat.pow_add, show 64 - s + s = 64 from by omega]
  have d := Nat.div_add_mod lo (2 ^ (64 - s))
  have p := Nat.two_pow_pos s
  have p2 := Nat.two_pow_pos (64 - s)
  have l : lo / 2 ^ (64 - s) < 2 ^ s := Nat.div_lt_of_lt_mul (by rw [e]; exact hl)
  have m : lo % 2 ^ (64 - s) < 2 ^ (64 - s) := Nat.mod_lt _ p2
  have m2 : lo % 2 ^ (64 - s) * 2 ^ s < 18446744073709551616 := by rw [← e]; exact Nat.mul_lt_mul_of_pos_right m p
  have k : lo * 2 ^ s = 18446744073709551616 * (lo / 2 ^ (64 - s)) + lo % 2 ^ (64 - s) * 2 ^ s := by
    have : lo * 2 ^ s = (2 ^ (64 - s) * (lo / 2 ^ (64 - s)) + lo % 2 ^ (64 - s)) * 2 ^ s := by rw [d]
    rw [this, Nat.add_mul, Nat.mul_right_comm, e]
  have k2 : lo * 2 ^ s % 18446744073709551616 = lo % 2 ^ (64 - s) * 2 ^ s := by
    rw [k, Nat.mul_add_mod]; exact Nat.mod_eq_of_lt m2
  refine ⟨?_, l⟩
  rw [k2]
  have e1 : (hi * 18446744073709551616 + lo) * 2 ^ s = hi * 2 ^ s * 18446744073709551616 + lo * 2 ^ s := by
    rw [Nat.add_mul, Nat.mul_right_comm]
  rw [e1, k]
  generalize hi * 2 ^ s = a at *
  generalize lo / 2 ^ (64 - s) = b at *
  generalize lo % 2 ^ (64 - s) * 2 ^ s = c at *
  omega

theorem joined (a b s : Nat) (h : b < 2 ^ s) (ha : a * 2 ^ s < 18446744073709551616) (hb : b < 18446744073709551616) : bits BinOp.or .u64 ((a * 2 ^ s : Nat) : Int) (b : Int) = ((a * 2 ^ s + b : Nat) : Int) := by
  rw [bits_or_u64_nat _ _ ha hb, Nat.mul_comm a, Nat.two_pow_add_eq_or_of_lt h]

theorem masked (a : Nat) (ha : a < 18446744073709551616) : bits BinOp.and .u64 (a : Int) 4294967295 = ((a % 4294967296 : Nat) : Int) := by
  have h := bits_and_u64_nat a 4294967295 ha (by omega)
  have e : a &&& 4294967295 = a % 4294967296 := Nat.and_two_pow_sub_one_eq_mod a 32
  rw [e] at h
  exact h
end Norm

theorem ret2 {k l : IntKind} {a b c d : Int} (h : a = c) (h' : b = d) : Ending.returned (.tuple #[.int k a, .int l b]) = .returned (.tuple #[.int k c, .int l d]) := by rw [h, h']

theorem div64_nat (hi lo y : Nat) (k0 : 0 < hi) (h1 : lo < 18446744073709551616) (y0 : hi < y) (y1 : y < 18446744073709551616) (w : World) :
    Calls Try.prog 61 #[.int .u64 hi, .int .u64 lo, .int .u64 y] w fun e w' =>
      e = .returned (.tuple #[.int .u64 (((hi * 18446744073709551616 + lo) / y : Nat) : Int), .int .u64 (((hi * 18446744073709551616 + lo) % y : Nat) : Int)]) ∧ w' = w := by
  obtain ⟨s, hs⟩ : ∃ s, s = 64 - Lib.bitLen y := ⟨_, rfl⟩
  obtain ⟨s1, Y0, Y1⟩ := Norm.top y s y1 (by omega) hs
  obtain ⟨mv, ll⟩ := Norm.moved hi lo s h1 s1
  have bl := (Norm.len y y1 (by omega)).2.2.2
  have p := Nat.two_pow_pos s
  have hy : hi * 2 ^ s + lo / 2 ^ (64 - s) < y * 2 ^ s := by
    have : (hi + 1) * 2 ^ s ≤ y * 2 ^ s := Nat.mul_le_mul_right _ y0
    rw [Nat.add_mul, Nat.one_mul] at this
    omega
  have pw : ((2 : Int) ^ s) = ((2 ^ s : Nat) : Int) := by simp
  have pw2 : ((2 : Int) ^ (64 - s)) = ((2 ^ (64 - s) : Nat) : Int) := by simp
  have ts : ((s : Int)).toNat = s := by omega
  have ts2 : (64 - (s : Int)).toNat = 64 - s := by omega
  have l64 : lo / 2 ^ (64 - s) < 18446744073709551616 := Nat.lt_of_le_of_lt (Nat.div_le_self _ _) h1
  have h2 : hi * 2 ^ s < 18446744073709551616 := Nat.lt_of_le_of_lt (Nat.le_add_right _ _) (Nat.lt_trans hy Y1)
  have vv : lo * 2 ^ s % 18446744073709551616 < 18446744073709551616 := Nat.mod_lt _ (by omega)
  have core := div64_core hi lo y s ((y * 2 ^ s : Nat) : Int) ((y * 2 ^ s / 4294967296 : Nat) : Int) ((y * 2 ^ s % 4294967296 : Nat) : Int) ((hi * 2 ^ s + lo / 2 ^ (64 - s) : Nat) : Int)
    ((lo * 2 ^ s % 18446744073709551616 : Nat) : Int) ((lo * 2 ^ s % 18446744073709551616 / 4294967296 : Nat) : Int) ((lo * 2 ^ s % 18446744073709551616 % 4294967296 : Nat) : Int)
    (by omega) (by omega) (by omega) (by omega)
    (by rw [ts, pw, IntKind.wrap_u64, ← Int.natCast_mul]; omega) (by omega) (by omega) (by omega) (Norm.masked _ Y1)
    (by rw [ts, ts2, pw, pw2, IntKind.wrap_u64, ← Int.natCast_mul, ← Int.natCast_ediv]
        rw [show (((hi * 2 ^ s : Nat) : Int) % 18446744073709551616) = ((hi * 2 ^ s : Nat) : Int) from by omega]
        exact Norm.joined hi _ s ll h2 l64)
    (by rw [ts, pw, IntKind.wrap_u64, ← Int.natCast_mul]; omega) (by omega) (Norm.masked _ vv)
    ⟨by omega, by omega, by omega, by omega, by omega, by omega, by omega, by omega, by omega⟩ (by omega) (by omega) (by omega) (by omega)
    (fun w => (Try.bits_LeadingZeros64 y w (by omega) (by omega)).mono fun e w' ⟨he, hw⟩ => ⟨by rw [he]; exact ret_int (by rw [Int.toNat_natCast]; omega), hw⟩) w
  refine core.mono fun e w' ⟨he, hw⟩ => ⟨?_, hw⟩
  rw [he]
  have Yp : (0 : Int) < ((y * 2 ^ s : Nat) : Int) := by omega
  obtain ⟨t1, t2⟩ := Div.two_steps ((y * 2 ^ s : Nat) : Int) ((hi * 2 ^ s + lo / 2 ^ (64 - s) : Nat) : Int) ((lo * 2 ^ s % 18446744073709551616 / 4294967296 : Nat) : Int) ((lo * 2 ^ s % 18446744073709551616 % 4294967296 : Nat) : Int) Yp
  have e0 : ((hi * 2 ^ s + lo / 2 ^ (64 - s) : Nat) : Int) * 18446744073709551616 + ((lo * 2 ^ s % 18446744073709551616 / 4294967296 : Nat) : Int) * 4294967296 + ((lo * 2 ^ s % 18446744073709551616 % 4294967296 : Nat) : Int)
      = (((hi * 18446744073709551616 + lo) * 2 ^ s : Nat) : Int) := by
    rw [← mv]
    generalize hi * 2 ^ s + lo / 2 ^ (64 - s) = a at *
    generalize lo * 2 ^ s % 18446744073709551616 = b at *
    omega
  rw [e0] at t1 t2
  refine ret2 ?_ ?_
  · rw [← t1, ← Int.natCast_ediv, Nat.mul_div_mul_right _ _ p]
  · rw [← t2, ts, pw, ← Int.natCast_emod, ← Int.natCast_ediv, Nat.mul_mod_mul_right, Nat.mul_div_cancel _ p]

/-- Div64 at every dividend whose high word is below the divisor. -/
theorem div64_any (hi lo y : Nat) (h1 : lo < 18446744073709551616) (y0 : hi < y) (y1 : y < 18446744073709551616) (w : World) :
    Calls Try.prog 61 #[.int .u64 hi, .int .u64 lo, .int .u64 y] w fun e w' =>
      e = .returned (.tuple #[.int .u64 (((hi * 18446744073709551616 + lo) / y : Nat) : Int), .int .u64 (((hi * 18446744073709551616 + lo) % y : Nat) : Int)]) ∧ ∃ n, w' = w.drewN n := by
  by_cases k0 : 0 < hi
  · exact (div64_nat hi lo y k0 h1 y0 y1 w).mono fun e w' ⟨he, hw⟩ => ⟨he, 0, hw⟩
  · obtain rfl : hi = 0 := by omega
    refine (div64_low lo y (by omega) (by omega) (by omega) (by omega) w).mono fun e w' ⟨he, hw⟩ => ⟨?_, hw⟩
    rw [he]
    exact ret2 (by simp) (by simp)

end Go.Proofs.Ytcjmjbhbdojeiab
