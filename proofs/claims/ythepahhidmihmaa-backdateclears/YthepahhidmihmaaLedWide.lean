/-
  Ours: sums of 128 bits: plus, minus, narrow.
-/
import Derived.Test.YthepahhidmihmaaLedOwn
import Derived.Test.YthepahhidmihmaaSum
import Derived.Shelf.Spec.BitsCarry
namespace Go.Proofs.Ythepahhidmihmaa
open Go.RowKit LedM

namespace LedM
theorem sub_low (s n : Int) : (s % 18446744073709551616 - n % 18446744073709551616 - 0) % 18446744073709551616 = (s - n) % 18446744073709551616 := by omega
theorem sub_high (s n : Int) (h0 : -9223372036854775808 ≤ n) (h1 : n ≤ 9223372036854775807) :
    (s / 18446744073709551616 % 18446744073709551616 - n / 9223372036854775808 % 18446744073709551616 - (if s % 18446744073709551616 < n % 18446744073709551616 + 0 then 1 else 0)) % 18446744073709551616 = (s - n) / 18446744073709551616 % 18446744073709551616 := by
  have e : (s - n) / 18446744073709551616 = s / 18446744073709551616 - n / 9223372036854775808 - (if s % 18446744073709551616 < n % 18446744073709551616 + 0 then 1 else 0) := by
    by_cases h : n < 0
    · rw [show n / 9223372036854775808 = -1 from by omega, show n % 18446744073709551616 = n + 18446744073709551616 from by omega]; split <;> omega
    · rw [show n / 9223372036854775808 = 0 from by omega, show n % 18446744073709551616 = n from by omega]; split <;> omega
  rw [e]
  generalize s / 18446744073709551616 = a
  generalize n / 9223372036854775808 = b
  generalize (if s % 18446744073709551616 < n % 18446744073709551616 + 0 then (1 : Int) else 0) = c
  omega
end LedM

theorem oneW (a b : Int) : ∀ v ∈ [Value.int .u64 a, Value.int .u64 b], v.oneCell' = true := fun v hv => by
  simp at hv
  rcases hv with rfl | rfl <;> rfl

namespace LedM
/-- A sum that 128 bits hold. -/
def Wd (s : Int) : Prop := -85070591730234615865843651857942052864 ≤ s ∧ s ≤ 85070591730234615865843651857942052864
end LedM
end Go.Proofs.Ythepahhidmihmaa
