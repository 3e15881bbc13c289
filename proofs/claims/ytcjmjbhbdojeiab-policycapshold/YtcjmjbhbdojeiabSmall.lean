/-
  Ours: contracts of money.size, money.signed.
-/
import Derived.Test.YtcjmjbhbdojeiabProg
import Derived.WalkKit
import Derived.WalkSpells
import Derived.WalkLawsBesides
import Derived.RowKit3
import Derived.Laws.Bits64
namespace Go.Proofs.Ytcjmjbhbdojeiab
open Go.RowKit

theorem ret_int {k : IntKind} {a b : Int} (h : a = b) : Ending.returned (.int k a) = .returned (.int k b) := by rw [h]
theorem ret_int_bool {k : IntKind} {a b : Int} {c : Bool} (h : a = b) : Ending.returned (.tuple #[.int k a, .bool c]) = .returned (.tuple #[.int k b, .bool c]) := by rw [h]

theorem size_any (x : Int) (h0 : -9223372036854775808 ≤ x) (h1 : x ≤ 9223372036854775807) (w : World) :
    Calls Try.prog 30 #[.int .i64 x] w fun e w' => e = .returned (.int .u64 (x.natAbs : Int)) ∧ w' = w := by
  by_cases h : x < 0
  · go_enter Try.func30, Try.ntmps30
    go_wp2
    go_ret
    exact ⟨ret_int (by simp only [IntKind.wrap_u64]; omega), rfl⟩
  · go_enter Try.func30, Try.ntmps30
    go_wp2
    go_ret
    exact ⟨ret_int (by omega), rfl⟩

/-- Does the size m with that sign fit an int64? -/
def sgOk (neg : Bool) (m : Nat) : Bool := if neg then decide (m ≤ 9223372036854775808) else decide (m < 9223372036854775808)
/-- The number of the size m with that sign, 0 where it does not fit. -/
def sgV (neg : Bool) (m : Nat) : Int := if sgOk neg m then (if neg then -(m : Int) else m) else 0

theorem signed_any (m : Int) (neg : Bool) (h0 : 0 ≤ m) (h1 : m < 18446744073709551616) (w : World) :
    Calls Try.prog 31 #[.int .u64 m, .bool neg] w fun e w' => e = .returned (.tuple #[.int .i64 (sgV neg m.toNat), .bool (sgOk neg m.toNat)]) ∧ w' = w := by
  obtain ⟨n, rfl⟩ := Int.eq_ofNat_of_zero_le h0
  rw [Int.toNat_natCast]
  cases neg
  · by_cases h : (n : Int) < 9223372036854775808
    · have e1 : sgOk false n = true := by simp [sgOk]; omega
      have e2 : sgV false n = n := by simp [sgV, e1]
      rw [e1, e2]; clear e1 e2
      go_enter Try.func31, Try.ntmps31
      go_wp2
      go_ret2
      exact ⟨ret_int_bool (by omega), rfl⟩
    · have e1 : sgOk false n = false := by simp [sgOk]; omega
      have e2 : sgV false n = 0 := by simp [sgV, e1]
      rw [e1, e2]; clear e1 e2
      go_enter Try.func31, Try.ntmps31
      go_wp2
      go_ret2
      exact ⟨rfl, rfl⟩
  · by_cases h : (n : Int) ≤ 9223372036854775808
    · have e1 : sgOk true n = true := by simp [sgOk]; omega
      have e2 : sgV true n = -(n : Int) := by simp [sgV, e1]
      rw [e1, e2]; clear e1 e2
      go_enter Try.func31, Try.ntmps31
      go_wp2
      go_ret2
      exact ⟨ret_int_bool (by simp only [IntKind.wrap_u64, wrap64]; omega), rfl⟩
    · have e1 : sgOk true n = false := by simp [sgOk]; omega
      have e2 : sgV true n = 0 := by simp [sgV, e1]
      rw [e1, e2]; clear e1 e2
      go_enter Try.func31, Try.ntmps31
      go_wp2
      go_ret2
      exact ⟨rfl, rfl⟩

end Go.Proofs.Ytcjmjbhbdojeiab
