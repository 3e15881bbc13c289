/-
  Ours: OutboxRetries (gen_ob4.py).
-/
import Derived.Test.YteppdlaoeoeplaaObEq
namespace Go.Proofs.Yteppdlaoeoeplaa
open Go.RowKit ObM LedM PolM
set_option linter.unusedSimpArgs false

theorem bk_next {b c m : Int} (h1 : 1 ≤ b) (h2 : b ≤ c) (h3 : c ≤ 64) (hm : 1 ≤ m) : bkV b c (m + 1) = min (2 * bkV b c m) c := by
  unfold bkV bkN
  obtain ⟨j, rfl⟩ : ∃ j : Nat, m = j + 1 := ⟨(m - 1).toNat, by omega⟩
  rw [show ((j : Int) + 1 + 1 - 1).toNat = j + 1 from by omega, show ((j : Int) + 1 - 1).toNat = j from by omega]
  by_cases h7 : j < 7
  · rw [Nat.min_eq_left (by omega : j + 1 ≤ 7), Nat.min_eq_left (by omega : j ≤ 7)]
    have e : b * p2 (j + 1) = 2 * (b * p2 j) := by simp only [p2]; rw [← Int.mul_assoc, Int.mul_comm b 2, Int.mul_assoc]
    have : 0 ≤ b * p2 j := Int.mul_nonneg (by omega) (by have := p2_pos j; omega)
    rw [e]
    omega
  · rw [Nat.min_eq_right (by omega : 7 ≤ j + 1), Nat.min_eq_right (by omega : 7 ≤ j)]
    have e : p2 7 = 128 := rfl
    rw [e]
    omega
theorem bk_ok {b c m : Int} (h1 : 1 ≤ b) (h2 : b ≤ c) (_h3 : c ≤ 64) : 1 ≤ bkV b c m ∧ bkV b c m ≤ c := by
  unfold bkV bkN
  have h : 1 ≤ b * p2 (min (m - 1).toNat 7) := by
    have h4 := p2_pos (min (m - 1).toNat 7)
    have := Int.mul_le_mul_of_nonneg_right h1 (by omega : 0 ≤ p2 (min (m - 1).toNat 7))
    omega
  omega
theorem bk_first {b c : Int} (h2 : b ≤ c) : bkV b c 1 = b := by
  show min (b * p2 0) c = b
  simp only [p2]
  omega
theorem lk_one {y : En} {id : Int} (h : y.id = id) : lk [y] id = some y := by simp [lk, h]
theorem wipe_one {y : En} {id : Int} (h : y.id = id) : wipe [y] id = [] := by simp [wipe, h]
/-- What was written is new. -/
theorem kp_ge {bm Z : Nat} {w w' : World} (h : Z ≤ bm) (k : Kp (fun g => g = bm) w w') : Kp (fun g => Z ≤ g) w w' := k.mono (fun g _ q => by omega)
/-- The schedule: what the box holds behind k ticks, and when it sends next. -/
def Sch (b c id : Int) (bs : List Nat) (start : Int) (k : Nat) (nxt gp : Int) (y : En) : Prop := y.id = id ∧ y.bs = bs ∧ y.nx = start + nxt ∧ (k : Int) ≤ nxt ∧ nxt ≤ k + 64 ∧ 0 ≤ y.att ∧ y.att ≤ k ∧ gp = bkV b c (y.att + 1) ∧ (1 ≤ gp ∧ gp ≤ 64)
def SchS (b c id : Int) (bs : List Nat) (start ack : Int) (L : List En) (k : Nat) (nxt gp : Int) : Prop := (L = [] ∧ nxt = -1 ∧ ack < k ∧ (1 ≤ gp ∧ gp ≤ 64)) ∨ ∃ y, L = [y] ∧ Sch b c id bs start k nxt gp y
theorem due_one (y : En) (now : Int) : dueL [y] now = if y.nx ≤ now then [y] else [] := by
  unfold dueL
  by_cases h : y.nx ≤ now
  · rw [if_pos h, List.filter_cons_of_pos (by simpa using h)]; rfl
  · rw [if_neg h, List.filter_cons_of_neg (by simpa using h)]; rfl

end Go.Proofs.Yteppdlaoeoeplaa
