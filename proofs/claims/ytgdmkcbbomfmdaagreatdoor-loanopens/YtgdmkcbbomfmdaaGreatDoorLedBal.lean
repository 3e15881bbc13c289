/-
  Ours: the sides; Balance and Debits, the program's and the document's.
-/
import Derived.Test.YtgdmkcbbomfmdaaGreatDoorLedOwn
namespace Go.Proofs.YtgdmkcbbomfmdaaGreatDoor
open Go.RowKit

namespace LedM
/-- The account's own side is the debit side. -/
def isD (a : Int) : Bool := a == 0 || a == 1 || a == 2 || a == 3 || a == 9 || a == 11
def isA (a : Int) : Bool := decide (0 ≤ a) && decide (a < 12)
theorem isD_A {a : Int} (h : isD a = true) : isA a = true := by
  simp [isD] at h
  simp [isA]; omega
theorem a12 {a : Int} (h : isA a = true) : a = 0 ∨ a = 1 ∨ a = 2 ∨ a = 3 ∨ a = 4 ∨ a = 5 ∨ a = 6 ∨ a = 7 ∨ a = 8 ∨ a = 9 ∨ a = 10 ∨ a = 11 := by
  simp [isA] at h; omega
end LedM
open LedM

/-- The table of the sides lies where the program looks it up. -/
def TabD (w : World) : Prop := ∀ k : Nat, k < 12 → w.cell? ⟨0, k, none⟩ = some (.bool (isD (k : Int)))
theorem TabD.later {w w' : World} (h : TabD w) (hb : Below w.heap.size w w') : TabD w' := fun k hk => (hb.cell (p := ⟨0, k, none⟩) (block_lt_of_cell (h k hk))).trans (h k hk)

theorem known_at (a : Int) (w : World) : Calls Tryz.prog 113 #[.int .i64 a] w fun e w' => e = .returned (.bool (isA a)) ∧ w' = w := by
  unfold isA
  by_cases h0 : 0 ≤ a
  · have d0 : decide (0 ≤ a) = true := decide_eq_true h0
    rw [d0, Bool.true_and]
    go_enter Tryz.func113, Tryz.ntmps113
    go_wp2
    go_ret
    exact ⟨rfl, rfl⟩
  · have d0 : decide (0 ≤ a) = false := decide_eq_false h0
    rw [d0, Bool.false_and]
    go_enter Tryz.func113, Tryz.ntmps113
    go_wp2
    go_ret
    exact ⟨rfl, rfl⟩
theorem ris_at (a : Int) (w : World) : Calls Tryz.prog 97 #[.int .i64 a] w fun e w' => e = .returned (.bool (isA a)) ∧ w' = w := by
  unfold isA
  by_cases h0 : 0 ≤ a
  · have d0 : decide (0 ≤ a) = true := decide_eq_true h0
    rw [d0, Bool.true_and]
    go_enter Tryz.func97, Tryz.ntmps97
    go_wp2
    go_ret
    exact ⟨rfl, rfl⟩
  · have d0 : decide (0 ≤ a) = false := decide_eq_false h0
    rw [d0, Bool.false_and]
    go_enter Tryz.func97, Tryz.ntmps97
    go_wp2
    go_ret
    exact ⟨rfl, rfl⟩

theorem rdebits_at (a : Int) (w : World) : Calls Tryz.prog 101 #[.int .i64 a] w fun e w' => e = .returned (.bool (isD a)) ∧ w' = w := by
  unfold isD
  by_cases h0 : a = 0
  · subst h0; go_enter Tryz.func101, Tryz.ntmps101; go_wp2; go_ret; exact ⟨rfl, rfl⟩
  by_cases h1 : a = 1
  · subst h1; go_enter Tryz.func101, Tryz.ntmps101; go_wp2; go_ret; exact ⟨rfl, rfl⟩
  by_cases h2 : a = 2
  · subst h2; go_enter Tryz.func101, Tryz.ntmps101; go_wp2; go_ret; exact ⟨rfl, rfl⟩
  by_cases h3 : a = 3
  · subst h3; go_enter Tryz.func101, Tryz.ntmps101; go_wp2; go_ret; exact ⟨rfl, rfl⟩
  by_cases h9 : a = 9
  · subst h9; go_enter Tryz.func101, Tryz.ntmps101; go_wp2; go_ret; exact ⟨rfl, rfl⟩
  by_cases h11 : a = 11
  · subst h11; go_enter Tryz.func101, Tryz.ntmps101; go_wp2; go_ret; exact ⟨rfl, rfl⟩
  have e0 : (a == 0) = false := beq_eq_false_iff_ne.2 h0
  have e1 : (a == 1) = false := beq_eq_false_iff_ne.2 h1
  have e2 : (a == 2) = false := beq_eq_false_iff_ne.2 h2
  have e3 : (a == 3) = false := beq_eq_false_iff_ne.2 h3
  have e9 : (a == 9) = false := beq_eq_false_iff_ne.2 h9
  have e11 : (a == 11) = false := beq_eq_false_iff_ne.2 h11
  rw [e0, e1, e2, e3, e9, e11]
  clear h0 h1 h2 h3 h9 h11
  go_enter Tryz.func101, Tryz.ntmps101
  go_wp2
  go_ret
  exact ⟨rfl, rfl⟩
end Go.Proofs.YtgdmkcbbomfmdaaGreatDoor
