/-
  Ours: the contract of arrearsref1.times.
-/
import Derived.Test.YtmennknknecgjaaDoorDigits
import Derived.Test.YtmennknknecgjaaDoorBin
import Derived.Laws.OwnMore
import Derived.RegionTactic
import Derived.BigRegion
namespace Go.Proofs.YtmennknknecgjaaDoor
open Go.RowKit

theorem Row.stored {e : TypeId} {base : Nat} {w : World} {g n cap : Nat} {xs : List Int} (h : Row e base w (.slice (some ⟨g, 0, none⟩) n cap) xs) (hn : xs.length = n) (j : Nat) (u : Int) :
    Row e base (w.setCell ⟨g, j, none⟩ (.int .i64 u)) (.slice (some ⟨g, 0, none⟩) n cap) (xs.set j u) := by
  subst hn
  have := (World.ownsRow.stored h j (.int .i64 u)).1
  unfold Row
  rw [List.length_set, List.map_set]
  exact this

namespace Times
theorem start (a b : List Int) : val (List.replicate 128 0) = val (a.take 0) * val b := by
  rw [val_zero, List.take_zero, val, Int.zero_mul]
theorem bit {a : List Int} (ua : Upto 1 a) {b : List Int} (ub : Upto 1 b) (p q : Nat) : 0 ≤ a.getD p 0 * b.getD q 0 ∧ a.getD p 0 * b.getD q 0 ≤ 1 := by
  have h1 := ua p
  have h2 := ub q
  generalize a.getD p 0 = x at *
  generalize b.getD q 0 = y at *
  have : x = 0 ∨ x = 1 := by omega
  rcases this with rfl | rfl
  · simp
  · simpa using h2
theorem step {a b S : List Int} {p q : Nat} (hp : p < 64) (hq : q < 64) (lb : b.length = 64) (lS : S.length = 128) (ua : Upto 1 a) (ub : Upto 1 b) (uS : Upto (64 * (p : Int) + q) S)
    (vS : val S = val (a.take p) * val b + a.getD p 0 * 2 ^ p * val (b.take q)) :
    (S.set (p + q) (S.getD (p + q) 0 + a.getD p 0 * b.getD q 0)).length = 128 ∧ Upto (64 * (p : Int) + (q + 1 : Nat)) (S.set (p + q) (S.getD (p + q) 0 + a.getD p 0 * b.getD q 0)) ∧
    val (S.set (p + q) (S.getD (p + q) 0 + a.getD p 0 * b.getD q 0)) = val (a.take p) * val b + a.getD p 0 * 2 ^ p * val (b.take (q + 1)) := by
  have hx := bit ua ub p q
  have hz := uS (p + q)
  refine ⟨by simp [lS], (uS.mono (by omega)).set _ (by omega) (by omega), ?_⟩
  rw [val_set _ _ _ (by omega), val_take_succ b q (by omega), vS, Int.pow_add]
  generalize a.getD p 0 = x at *
  generalize b.getD q 0 = y at *
  generalize S.getD (p + q) 0 = z at *
  have e1 : z + x * y - z = x * y := by omega
  have e2 : (2 : Int) ^ p * 2 ^ q * (x * y) = x * 2 ^ p * (2 ^ q * y) := by
    rw [Int.mul_comm x (2 ^ p), Int.mul_assoc, Int.mul_assoc, Int.mul_left_comm (2 ^ q) x y]
  rw [e1, e2, Int.mul_add]
  omega
theorem next {a b S : List Int} {p : Nat} (hp : p < 64) (la : a.length = 64) (lb : b.length = 64) (vS : val S = val (a.take p) * val b + a.getD p 0 * 2 ^ p * val (b.take 64)) :
    val S = val (a.take (p + 1)) * val b := by
  rw [vS, val_take_succ a p (by omega), Int.add_mul, Int.mul_comm (a.getD p 0), List.take_of_length_le (by omega : b.length ≤ 64)]
theorem zero (a b S : List Int) (p : Nat) (vS : val S = val (a.take p) * val b) : val S = val (a.take p) * val b + a.getD p 0 * 2 ^ p * val (b.take 0) := by
  rw [vS, List.take_zero, val, Int.mul_zero, Int.add_zero]
theorem carry {S : List Int} {k : Nat} {c T : Int} (hk : k < 128) (lS : S.length = 128) (uS : Upto 4096 S) (dS : ∀ i, i < k → S.getD i 0 ≤ 1) (_c0 : 0 ≤ c) (_c1 : c ≤ 4096) (vS : val S + c * 2 ^ k = T) :
    (S.set k ((S.getD k 0 + c) % 2)).length = 128 ∧ Upto 4096 (S.set k ((S.getD k 0 + c) % 2)) ∧ (∀ i, i < k + 1 → (S.set k ((S.getD k 0 + c) % 2)).getD i 0 ≤ 1) ∧ val (S.set k ((S.getD k 0 + c) % 2)) + ((S.getD k 0 + c) / 2) * 2 ^ (k + 1) = T := by
  have hz := uS k
  refine ⟨by simp [lS], uS.set _ (by omega) (by omega), ?_, ?_⟩
  · intro i hi
    by_cases e : i = k
    · subst e
      simp only [List.getD_eq_getElem?_getD, List.getElem?_set]
      rw [if_pos trivial, if_pos (by omega)]
      simp; omega
    · have := dS i (by omega)
      simp only [List.getD_eq_getElem?_getD, List.getElem?_set] at *
      rw [if_neg (by omega)]
      exact this
  · rw [val_set _ _ _ (by omega), Int.pow_succ, ← vS]
    generalize S.getD k 0 = z at *
    generalize (2 : Int) ^ k = P at *
    have e : (z + c) % 2 = z + c - 2 * ((z + c) / 2) := by omega
    rw [e]
    generalize (z + c) / 2 = h at *
    have e2 : P * (z + c - 2 * h - z) = c * P - h * (P * 2) := by
      rw [show z + c - 2 * h - z = c - 2 * h from by omega, Int.mul_sub, Int.mul_comm P c, ← Int.mul_assoc h, Int.mul_left_comm P 2 h, Int.mul_comm h P, Int.mul_comm (P * h) 2]
    rw [e2]
    omega
theorem done {a b S : List Int} {c : Int} (la : a.length = 64) (lb : b.length = 64) (ua : Upto 1 a) (ub : Upto 1 b) (lS : S.length = 128) (uS : Upto 4096 S) (dS : ∀ i, i < 128 → S.getD i 0 ≤ 1) (c0 : 0 ≤ c) (vS : val S + c * 2 ^ 128 = val a * val b) :
    Upto 1 S ∧ val S = val a * val b := by
  have u1 : Upto 1 S := fun i => by
    refine ⟨(uS i).1, ?_⟩
    by_cases h : i < 128
    · exact dS i h
    · simp [List.getD_eq_getElem?_getD, List.getElem?_eq_none (by omega : S.length ≤ i)]
  refine ⟨u1, ?_⟩
  have n0 := val_nonneg u1
  have a0 := val_nonneg ua
  have a1 := val_lt ua
  have b0 := val_nonneg ub
  have b1 := val_lt ub
  rw [la] at a1
  rw [lb] at b1
  have h : val a * val b < 2 ^ 64 * 2 ^ 64 := by
    have h1 : val a * val b ≤ 2 ^ 64 * val b := Int.mul_le_mul_of_nonneg_right (Int.le_of_lt a1) b0
    have h2 : (2 : Int) ^ 64 * val b < 2 ^ 64 * 2 ^ 64 := Int.mul_lt_mul_of_pos_left b1 (by decide)
    exact Int.lt_of_le_of_lt h1 h2
  generalize val a * val b = T at *
  have : c = 0 := by omega
  subst this
  omega
end Times

end Go.Proofs.YtmennknknecgjaaDoor
