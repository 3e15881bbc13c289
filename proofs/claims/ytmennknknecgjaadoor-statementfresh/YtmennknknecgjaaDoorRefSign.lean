/-
  Ours: the contracts of arrearsref1.size, arrearsref1.signed.
-/
import Derived.Test.YtmennknknecgjaaDoorOver
import Derived.Test.YtmennknknecgjaaDoorSmall
namespace Go.Proofs.YtmennknknecgjaaDoor
open Go.RowKit

theorem rsize_any (x : Int) (h0 : -9223372036854775808 ≤ x) (h1 : x ≤ 9223372036854775807) (w : World) :
    Calls Tryd.prog 53 #[.int .i64 x] w fun e w' => e = .returned (.int .u64 (x.natAbs : Int)) ∧ w' = w := by
  by_cases h : x < 0
  · go_enter Tryd.func53, Tryd.ntmps53
    go_wp2
    go_ret
    exact ⟨ret_int (by omega), rfl⟩
  · go_enter Tryd.func53, Tryd.ntmps53
    go_wp2
    go_ret
    exact ⟨ret_int (by omega), rfl⟩

namespace RefSign
theorem zeros : ∀ {xs : List Int}, (∀ i, xs.getD i 0 = 0) → val xs = 0
  | [], _ => rfl
  | x :: r, h => by
    have h0 := h 0
    have hr := zeros (xs := r) fun i => by have := h (i + 1); simpa using this
    simp at h0
    simp [val, h0, hr]
theorem great {D : List Int} {k : Nat} (hk : 64 ≤ k) (hk' : k < 128) (lD : D.length = 128) (uD : Upto 1 D) (h : D.getD k 0 ≠ 0) : 18446744073709551616 ≤ val D := by
  rw [val_split D k (by omega), val_drop D k (by omega)]
  have a := val_nonneg (uD.take (by omega) k)
  have b := val_nonneg (uD.drop (k + 1))
  have c := uD k
  have p : (18446744073709551616 : Int) ≤ 2 ^ k := by
    obtain ⟨j, rfl⟩ : ∃ j, k = 64 + j := ⟨k - 64, by omega⟩
    rw [Int.pow_add]
    have : (1 : Int) ≤ 2 ^ j := by have := Int.pow_pos (n := (2 : Int)) (m := j) (by decide); omega
    have h2 : (18446744073709551616 : Int) * 1 ≤ 18446744073709551616 * 2 ^ j := Int.mul_le_mul_of_nonneg_left this (by decide)
    exact h2
  have q : (2 : Int) ^ k * 1 ≤ 2 ^ k * (D.getD k 0 + 2 * val (D.drop (k + 1))) := Int.mul_le_mul_of_nonneg_left (by omega) (by omega)
  rw [Int.mul_one] at q
  generalize (2 : Int) ^ k * (D.getD k 0 + 2 * val (D.drop (k + 1))) = z at *
  omega
theorem low {D : List Int} (lD : D.length = 128) (h : ∀ i, 64 ≤ i → i < 128 → D.getD i 0 = 0) : val D = val (D.take 64) := by
  rw [val_split D 64 (by omega)]
  have : val (D.drop 64) = 0 := zeros fun i => by
    by_cases hi : i < 64
    · have := h (64 + i) (by omega) (by omega)
      simpa [List.getD_eq_getElem?_getD] using this
    · simp [List.getD_eq_getElem?_getD, List.getElem?_eq_none (by omega : D.length ≤ 64 + i)]
  rw [this]; simp
theorem stepv {D : List Int} {k : Nat} (hk : k < 64) (lD : D.length = 128) (uD : Upto 1 D) :
    2 * val ((D.take 64).drop (k + 1)) + D.getD k 0 = val ((D.take 64).drop k) ∧ val ((D.take 64).drop k) < 18446744073709551616 := by
  have e : (D.take 64).getD k 0 = D.getD k 0 := by
    simp only [List.getD_eq_getElem?_getD, List.getElem?_take]
    rw [if_pos (by omega)]
  have l : (D.take 64).length = 64 := by simp; omega
  refine ⟨by rw [val_drop (D.take 64) k (by omega), e]; omega, ?_⟩
  have b := val_lt ((uD.take (by omega) 64).drop k)
  rw [List.length_drop, l] at b
  have p : (2 : Int) ^ (64 - k) ≤ 2 ^ 64 := by
    have h : (2 : Int) ^ (64 - k) * 1 ≤ 2 ^ (64 - k) * 2 ^ k := Int.mul_le_mul_of_nonneg_left (by have := Int.pow_pos (n := (2 : Int)) (m := k) (by decide); omega) (Int.le_of_lt (Int.pow_pos (by decide)))
    rw [← Int.pow_add, show 64 - k + k = 64 from by omega, Int.mul_one] at h
    exact h
  exact Int.lt_of_lt_of_le b p
theorem full {D : List Int} (lD : D.length = 128) : val ((D.take 64).drop 64) = 0 := by
  rw [List.drop_of_length_le (by simp; omega)]; rfl
theorem no_of {m : Int} (neg : Bool) (h : 18446744073709551616 ≤ m) : sgOk neg m.toNat = false ∧ sgV neg m.toNat = 0 := by
  have e : sgOk neg m.toNat = false := by cases neg <;> simp [sgOk] <;> omega
  exact ⟨e, by simp [sgV, e]⟩
end RefSign

end Go.Proofs.YtmennknknecgjaaDoor
