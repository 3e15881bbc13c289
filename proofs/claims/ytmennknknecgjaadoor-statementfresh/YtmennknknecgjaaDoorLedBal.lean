/-
  Ours: the sides; Balance and Debits, the program's and the document's.
-/
import Derived.Test.YtmennknknecgjaaDoorLedOwn
namespace Go.Proofs.YtmennknknecgjaaDoor
open Go.RowKit

namespace LedM
/-- The account's own side is the debit side. -/
def isD (a : Int) : Bool := a == 0 || a == 1 || a == 2 || a == 3 || a == 9 || a == 11
def isA (a : Int) : Bool := decide (0 ≤ a) && decide (a < 12)
theorem isD_A {a : Int} (h : isD a = true) : isA a = true := by
  simp [isD] at h
  simp [isA]; omega
theorem a12 {a : Int} (h : isA a = true) : a = 0 ∨ a = 1 ∨ a = 2 ∨ a = 3 ∨ a = 4 ∨ a = 5 ∨ a = 6 ∨ a = 7 ∨ a = 8 ∨ a = 9 ∨ a = 10 ∨ a = 11 := by
  simp [isA] at h; omega
end LedM
open LedM

/-- The table of the sides lies where the program looks it up. -/
def TabD (w : World) : Prop := ∀ k : Nat, k < 12 → w.cell? ⟨3, k, none⟩ = some (.bool (isD (k : Int)))
theorem TabD.later {w w' : World} (h : TabD w) (hb : Below w.heap.size w w') : TabD w' := fun k hk => (hb.cell (p := ⟨3, k, none⟩) (block_lt_of_cell (h k hk))).trans (h k hk)

theorem known_at (a : Int) (w : World) : Calls Tryd.prog 50 #[.int .i64 a] w fun e w' => e = .returned (.bool (isA a)) ∧ w' = w := by
  unfold isA
  by_cases h0 : 0 ≤ a
  · have d0 : decide (0 ≤ a) = true := decide_eq_true h0
    rw [d0, Bool.true_and]
    go_enter Tryd.func50, Tryd.ntmps50
    go_wp2
    go_ret
    exact ⟨rfl, rfl⟩
  · have d0 : decide (0 ≤ a) = false := decide_eq_false h0
    rw [d0, Bool.false_and]
    go_enter Tryd.func50, Tryd.ntmps50
    go_wp2
    go_ret
    exact ⟨rfl, rfl⟩
end Go.Proofs.YtmennknknecgjaaDoor
