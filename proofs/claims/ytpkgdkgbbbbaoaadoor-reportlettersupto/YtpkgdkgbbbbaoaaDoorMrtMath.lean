/-
  Ours: an amount's text, by lists of bytes; what reads it back. No Go in sight.
-/
import Derived.Lib.ItoaNum
import Derived.Lib.ItoaMem
import Derived.Lib.ParseIntBCases
namespace Go.Proofs.YtpkgdkgbbbbaoaaDoor
open Go.Lib

/-- The amount as text. -/
def amtL (n : Nat) : List UInt8 := decDigits (n / 100) ++ [46, UInt8.ofNat (48 + n % 100 / 10), UInt8.ofNat (48 + n % 10)]
def fmtL (x : Int) : List UInt8 := if x < 0 then 45 :: amtL x.natAbs else amtL x.natAbs

theorem dec3 (m : Nat) (h : m < 100) : decDigits (100 + m) = [49, UInt8.ofNat (48 + m / 10), UInt8.ofNat (48 + m % 10)] := by
  rw [decDigits, dif_neg (by omega), show (100 + m) / 10 = 10 + m / 10 by omega, decDigits, dif_neg (by omega), show (10 + m / 10) / 10 = 1 by omega, decDigits, dif_pos (by omega), show (10 + m / 10) % 10 = m / 10 by omega, show (100 + m) % 10 = m % 10 by omega]
  rfl

theorem u8_nat {k : Nat} (h : k < 256) : (UInt8.ofNat k).toNat = k := by simp; omega

theorem par_dec (r : List UInt8) : ∀ u : Nat, u ≤ 18446744073709551615 → parseUintM 18446744073709551615 0 (decDigits u ++ r) = parseUintM 18446744073709551615 u r := by
  intro u
  induction u using Nat.strongRecOn generalizing r with
  | _ u ih =>
    intro hu
    by_cases h : u < 10
    · rw [decDigits, dif_pos h]
      simp only [List.cons_append, List.nil_append, parseUintM]
      rw [u8_nat (by omega), if_pos (by omega), if_neg (by omega), if_neg (by omega)]
      congr 1; omega
    · rw [decDigits, dif_neg h, List.append_assoc, ih (u / 10) (by omega) _ (by omega)]
      simp only [List.cons_append, List.nil_append, parseUintM]
      rw [u8_nat (by omega), if_pos (by omega), if_neg (by omega), if_neg (by omega)]
      congr 1; omega

/-- The digits without the point. -/
def digL (n : Nat) : List UInt8 := decDigits (n / 100) ++ [UInt8.ofNat (48 + n % 100 / 10), UInt8.ofNat (48 + n % 10)]
theorem par_amt (n : Nat) (h : n ≤ 9223372036854775808) : parseUintB 64 (digL n) = .ok n := by
  unfold parseUintB digL
  rw [if_neg (by simp), show 2 ^ 64 - 1 = 18446744073709551615 by decide, par_dec _ _ (by omega)]
  simp only [parseUintM]
  rw [u8_nat (by omega), u8_nat (by omega), if_pos (by omega), if_neg (by omega), if_neg (by omega), if_pos (by omega), if_neg (by omega), if_neg (by omega)]
  congr 1; omega

theorem dec_head (u : Nat) : ∃ c r, decDigits u = c :: r ∧ 48 ≤ c.toNat ∧ c.toNat ≤ 57 := by
  induction u using Nat.strongRecOn with
  | _ u ih =>
    by_cases h : u < 10
    · exact ⟨_, _, by rw [decDigits, dif_pos h], by rw [u8_nat (by omega)]; omega, by rw [u8_nat (by omega)]; omega⟩
    · obtain ⟨c, r, e, h1, h2⟩ := ih (u / 10) (by omega)
      exact ⟨c, r ++ [UInt8.ofNat (48 + u % 10)], by rw [decDigits, dif_neg h, e]; rfl, h1, h2⟩

/-- The text's digits, its sign ahead. -/
def rawL (x : Int) : List UInt8 := if x < 0 then 45 :: digL x.natAbs else digL x.natAbs
theorem par_raw (x : Int) (h0 : -9223372036854775808 ≤ x) (h1 : x ≤ 9223372036854775807) : parseIntB 64 (rawL x) = .ok x := by
  unfold rawL
  by_cases hx : x < 0
  · rw [if_pos hx, parseIntB_minus, par_amt _ (by omega)]
    simp only [signedC]
    rw [if_neg (by simp; omega)]
    congr 1; omega
  · rw [if_neg hx]
    obtain ⟨c, r, e, c0, c1⟩ := dec_head (x.natAbs / 100)
    have hd : digL x.natAbs = c :: (r ++ [UInt8.ofNat (48 + x.natAbs % 100 / 10), UInt8.ofNat (48 + x.natAbs % 10)]) := by unfold digL; rw [e]; rfl
    rw [hd, parseIntB_plain _ _ _ (by omega) (by omega), ← hd, par_amt _ (by omega)]
    simp only [signlessC]
    rw [if_neg (by simp; omega)]
    congr 1; omega

theorem nDigits_le : ∀ (k u : Nat), u < 10 ^ (k + 1) → nDigits u ≤ k + 1
  | 0, u, h => by rw [nDigits, dif_pos (by simpa using h)]; omega
  | k + 1, u, h => by
    by_cases hu : u < 10
    · rw [nDigits, dif_pos hu]; omega
    · rw [nDigits, dif_neg hu]
      have := nDigits_le k (u / 10) (by rw [Nat.pow_succ] at h; omega)
      omega
theorem nDigits_pos (u : Nat) : 1 ≤ nDigits u := by rw [nDigits]; split <;> omega

/-- Head and tail of the text about its point. -/
theorem fmt_parts (x : Int) (h0 : -9223372036854775808 ≤ x) (h1 : x ≤ 9223372036854775807) :
    (fmtL x).length ≤ 21 ∧ 4 ≤ (fmtL x).length ∧ (fmtL x).take ((fmtL x).length - 3) ++ (fmtL x).drop ((fmtL x).length - 3 + 1) = rawL x := by
  have l1 := nDigits_le 16 (x.natAbs / 100) (by rw [show 10 ^ (16 + 1) = 100000000000000000 by decide]; omega)
  have l2 := nDigits_pos (x.natAbs / 100)
  unfold fmtL rawL
  by_cases hx : x < 0
  · rw [if_pos hx, if_pos hx]
    unfold amtL digL
    have hl : (45 :: (decDigits (x.natAbs / 100) ++ [46, UInt8.ofNat (48 + x.natAbs % 100 / 10), UInt8.ofNat (48 + x.natAbs % 10)])).length = nDigits (x.natAbs / 100) + 4 := by simp [decDigits_length]
    refine ⟨by rw [hl]; omega, by rw [hl]; omega, ?_⟩
    rw [hl]
    have hs : 45 :: (decDigits (x.natAbs / 100) ++ [46, UInt8.ofNat (48 + x.natAbs % 100 / 10), UInt8.ofNat (48 + x.natAbs % 10)]) = (45 :: decDigits (x.natAbs / 100)) ++ [46, UInt8.ofNat (48 + x.natAbs % 100 / 10), UInt8.ofNat (48 + x.natAbs % 10)] := rfl
    have hh : (45 :: decDigits (x.natAbs / 100)).length = nDigits (x.natAbs / 100) + 4 - 3 := by simp [decDigits_length]
    rw [hs, ← hh, List.take_left, List.drop_append, List.drop_of_length_le (by omega), Nat.add_sub_cancel_left]
    rfl
  · rw [if_neg hx, if_neg hx]
    unfold amtL digL
    have hl : (decDigits (x.natAbs / 100) ++ [46, UInt8.ofNat (48 + x.natAbs % 100 / 10), UInt8.ofNat (48 + x.natAbs % 10)]).length = nDigits (x.natAbs / 100) + 3 := by simp [decDigits_length]
    refine ⟨by rw [hl]; omega, by rw [hl]; omega, ?_⟩
    rw [hl]
    have hh : (decDigits (x.natAbs / 100)).length = nDigits (x.natAbs / 100) + 3 - 3 := by simp [decDigits_length]
    rw [← hh, List.take_left, List.drop_append, List.drop_of_length_le (by omega), Nat.add_sub_cancel_left]
    rfl
end Go.Proofs.YtpkgdkgbbbbaoaaDoor
