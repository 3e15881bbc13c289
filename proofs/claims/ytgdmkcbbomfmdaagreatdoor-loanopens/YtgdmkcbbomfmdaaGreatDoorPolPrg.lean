/-
  Ours: policy's Backoff, Bound, Window.
-/
import Derived.Test.YtgdmkcbbomfmdaaGreatDoorPolChk
namespace Go.Proofs.YtgdmkcbbomfmdaaGreatDoor
open Go.RowKit LedM PolM

namespace PolM
def p2 : Nat → Int
  | 0 => 1
  | m + 1 => 2 * p2 m
theorem p2_pos : ∀ m, 1 ≤ p2 m
  | 0 => by decide
  | m + 1 => by have := p2_pos m; simp only [p2]; omega
theorem p2_mono {m n : Nat} (h : m ≤ n) : p2 m ≤ p2 n := by
  induction n with
  | zero => obtain rfl : m = 0 := by omega
            exact Int.le_refl _
  | succ n ih =>
    by_cases e : m = n + 1
    · subst e; exact Int.le_refl _
    · have := ih (by omega); have := p2_pos n; simp only [p2]; omega
/-- The wait behind the attempt of that number. -/
def bkN (b c : Int) (m : Nat) : Int := min (b * p2 (min m 7)) c
def bkV (b c att : Int) : Int := bkN b c (att - 1).toNat
theorem bk_end {b c : Int} {m n : Nat} (b0 : 1 ≤ b) (h : m ≤ n) (h7 : m ≤ 7) (hh : n ≤ m ∨ c ≤ b * p2 m) : min (b * p2 m) c = bkN b c n := by
  unfold bkN
  rcases hh with hh | hh
  · obtain rfl : m = n := by omega
    rw [Nat.min_eq_left h7]
  · have h1 : p2 m ≤ p2 (min n 7) := p2_mono (by omega)
    have h2 : b * p2 m ≤ b * p2 (min n 7) := Int.mul_le_mul_of_nonneg_left h1 (by omega)
    omega
theorem p2_small {b c : Int} {m : Nat} (b0 : 1 ≤ b) (c1 : c ≤ 64) (h : b * p2 m < c) : m ≤ 5 ∧ p2 m ≤ 63 := by
  have h3 : p2 m ≤ b * p2 m := by
    have := Int.mul_le_mul_of_nonneg_right b0 (by have := p2_pos m; omega : 0 ≤ p2 m)
    omega
  refine ⟨?_, by omega⟩
  rcases Nat.lt_or_ge 5 m with h5 | h5
  · have := p2_mono (show 6 ≤ m from h5)
    have : p2 6 = 64 := rfl
    omega
  · exact h5
end PolM

/-- What a policy that may be gives of its numbers. -/
structure Nums (l : List Int) : Prop where
  rate : 0 ≤ l.getD 4 0 ∧ l.getD 4 0 ≤ 10000
  least : 0 ≤ l.getD 5 0 ∧ l.getD 5 0 ≤ 1000000000
  most : l.getD 5 0 ≤ l.getD 6 0 ∧ l.getD 6 0 ≤ 1000000000
  cyc : 0 ≤ l.getD 7 0 ∧ l.getD 7 0 ≤ 1000000000
  life : 0 ≤ l.getD 8 0 ∧ l.getD 8 0 ≤ 1000000000
  off : 1 ≤ l.getD 3 0 ∧ l.getD 3 0 ≤ 365
  prom : 0 ≤ l.getD 9 0 ∧ l.getD 9 0 ≤ 8
  pday : 1 ≤ l.getD 10 0 ∧ l.getD 10 0 ≤ 60
  base : 1 ≤ l.getD 14 0 ∧ l.getD 14 0 ≤ 64
  cap : l.getD 14 0 ≤ l.getD 15 0 ∧ l.getD 15 0 ≤ 64
theorem nums {l hs : List Int} (h : good l hs = true) : Nums l :=
  ⟨good_fld h 4 (by omega), good_fld h 5 (by omega), good_fld h 6 (by omega), good_fld h 7 (by omega), good_fld h 8 (by omega), good_fld h 3 (by omega), good_fld h 9 (by omega), good_fld h 10 (by omega), good_fld h 14 (by omega), good_fld h 15 (by omega)⟩

end Go.Proofs.YtgdmkcbbomfmdaaGreatDoor
