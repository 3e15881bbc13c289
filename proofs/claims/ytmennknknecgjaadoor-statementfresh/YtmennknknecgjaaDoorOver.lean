/-
  Ours: the contracts of arrearsref1.over, arrearsref1.more.
-/
import Derived.Test.YtmennknknecgjaaDoorTimes
namespace Go.Proofs.YtmennknknecgjaaDoor
open Go.RowKit

namespace Over
theorem start (D : List Int) (c : Int) (lD : D.length = 128) : val (D.drop 128) = val ((List.replicate 128 0).drop 128) * c + 0 := by
  rw [List.drop_of_length_le (by omega), List.drop_of_length_le (by rw [List.length_replicate]; omega), val]
  simp
theorem zeros (i : Nat) : (List.replicate 128 (0 : Int)).getD i 0 = 0 := by
  simp only [List.getD_eq_getElem?_getD, List.getElem?_replicate]
  split <;> simp
theorem yes {D S : List Int} {k : Nat} {c r : Int} (hk : k < 128) (lD : D.length = 128) (lS : S.length = 128) (uS : Upto 1 S) (zS : ∀ i, i < k + 1 → S.getD i 0 = 0) (v : val (D.drop (k + 1)) = val (S.drop (k + 1)) * c + r) :
    (S.set k 1).length = 128 ∧ Upto 1 (S.set k 1) ∧ (∀ i, i < k → (S.set k 1).getD i 0 = 0) ∧ val (D.drop k) = val ((S.set k 1).drop k) * c + (2 * r + D.getD k 0 - c) := by
  refine ⟨by simp [lS], uS.set _ (by omega) (by omega), ?_, ?_⟩
  · intro i hi
    have := zS i (by omega)
    simp only [List.getD_eq_getElem?_getD, List.getElem?_set] at *
    rw [if_neg (by omega)]
    exact this
  · rw [val_drop D k (by omega), val_drop (S.set k 1) k (by simp; omega), List.drop_set_of_lt (by omega), v, Int.add_mul, Int.mul_add, ← Int.mul_assoc]
    have e : (S.set k 1).getD k 0 = 1 := by
      simp only [List.getD_eq_getElem?_getD, List.getElem?_set]
      rw [if_pos trivial, if_pos (by omega)]
      rfl
    rw [e]
    generalize val (S.drop (k + 1)) = z at *
    have : 2 * z * c = 2 * (z * c) := Int.mul_assoc _ _ _
    omega
theorem no {D S : List Int} {k : Nat} {c r : Int} (hk : k < 128) (lD : D.length = 128) (lS : S.length = 128) (zS : ∀ i, i < k + 1 → S.getD i 0 = 0) (v : val (D.drop (k + 1)) = val (S.drop (k + 1)) * c + r) :
    val (D.drop k) = val (S.drop k) * c + (2 * r + D.getD k 0) := by
  rw [val_drop D k (by omega), val_drop S k (by omega), v, zS k (by omega), Int.add_mul, Int.mul_add]
  generalize val (S.drop (k + 1)) = z at *
  have : 2 * z * c = 2 * (z * c) := Int.mul_assoc _ _ _
  omega
end Over

namespace More
theorem step {D E : List Int} {k : Nat} {c : Int} (hk : k < D.length) (lE : E.length = k) (v : val E + c * 2 ^ k = val (D.take k) + 1) :
    val (E ++ [(D.getD k 0 + c) % 2]) + (D.getD k 0 + c) / 2 * 2 ^ (k + 1) = val (D.take (k + 1)) + 1 := by
  rw [val_push, val_take_succ D k hk, lE, Int.pow_succ]
  generalize D.getD k 0 = z at *
  generalize (2 : Int) ^ k = P at *
  have e : (z + c) % 2 = z + c - 2 * ((z + c) / 2) := by omega
  rw [e]
  generalize (z + c) / 2 = h at *
  have e2 : P * (z + c - 2 * h) = P * z + c * P - h * (P * 2) := by
    rw [Int.mul_sub, Int.mul_add, Int.mul_comm P c, Int.mul_left_comm P 2 h, ← Int.mul_assoc h P 2, Int.mul_comm h P, Int.mul_comm (P * h) 2]
  rw [e2]
  omega
theorem done {D E : List Int} {c : Int} (lD : D.length = 128) (uE : Upto 1 E) (c0 : 0 ≤ c) (v : val E + c * 2 ^ 128 = val (D.take 128) + 1) (top : val D + 1 < 2 ^ 128) : val E = val D + 1 := by
  rw [List.take_of_length_le (by omega)] at v
  have := val_nonneg uE
  have : c = 0 := by omega
  subst this
  omega
end More

end Go.Proofs.YtmennknknecgjaaDoor
