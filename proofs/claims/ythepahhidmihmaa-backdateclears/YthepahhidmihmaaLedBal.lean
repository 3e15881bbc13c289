/-
  Ours: the sides; Balance and Debits, the program's and the document's.
-/
import Derived.Test.YthepahhidmihmaaLedOwn
namespace Go.Proofs.Ythepahhidmihmaa
open Go.RowKit

namespace LedM
/-- The account's own side is the debit side. -/
def isD (a : Int) : Bool := a == 0 || a == 1 || a == 2 || a == 3 || a == 9 || a == 11
def isA (a : Int) : Bool := decide (0 ≤ a) && decide (a < 12)
theorem isD_A {a : Int} (h : isD a = true) : isA a = true := by
  simp [isD] at h
  simp [isA]; omega
theorem a12 {a : Int} (h : isA a = true) : a = 0 ∨ a = 1 ∨ a = 2 ∨ a = 3 ∨ a = 4 ∨ a = 5 ∨ a = 6 ∨ a = 7 ∨ a = 8 ∨ a = 9 ∨ a = 10 ∨ a = 11 := by
  simp [isA] at h; omega
end LedM
open LedM

end Go.Proofs.Ythepahhidmihmaa
