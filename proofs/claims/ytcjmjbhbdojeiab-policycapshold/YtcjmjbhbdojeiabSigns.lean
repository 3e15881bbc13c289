/-
  Ours: plain arithmetic on signs: a product of two numbers by their sizes; the floor and the rest by the sizes'. No Go in sight.
-/
namespace Go.Proofs.Ytcjmjbhbdojeiab.Signs

/-- Is exactly one of the two below 0? -/
def neg2 (a b : Int) : Bool := decide (a < 0) != decide (b < 0)

theorem prod (a b : Int) : a * b = if neg2 a b then -((a.natAbs * b.natAbs : Nat) : Int) else ((a.natAbs * b.natAbs : Nat) : Int) := by
  have e : ∀ x : Int, x = if x < 0 then -(x.natAbs : Int) else (x.natAbs : Int) := by intro x; split <;> omega
  rw [Int.natCast_mul]
  by_cases ha : a < 0 <;> by_cases hb : b < 0
  all_goals
    have e1 := e a
    have e2 := e b
    simp only [ha, hb, if_true, if_false] at e1 e2
    simp only [neg2, ha, hb, decide_true, decide_false, bne_self_eq_false, Bool.false_eq_true, if_false, bne_iff_ne, ne_eq, Bool.true_eq_false, not_false_eq_true, if_true]
    generalize (a.natAbs : Int) = A at *
    generalize (b.natAbs : Int) = B at *
    subst e1 e2
    first | rfl | rw [Int.neg_mul_neg] | rw [Int.neg_mul] | rw [Int.mul_neg]

theorem floor_up (P C : Nat) : ((P : Int)) / (C : Int) = ((P / C : Nat) : Int) ∧ (P : Int) % (C : Int) = ((P % C : Nat) : Int) := ⟨(Int.natCast_ediv _ _).symm, (Int.natCast_emod _ _).symm⟩

theorem floor_even (P C : Nat) (hC : 0 < C) (h : P % C = 0) : (-(P : Int)) / (C : Int) = -((P / C : Nat) : Int) ∧ (-(P : Int)) % (C : Int) = 0 := by
  refine (Int.ediv_emod_unique (by omega)).2 ⟨?_, by omega, by omega⟩
  have d := Nat.div_add_mod P C
  rw [h] at d
  have : (P : Int) = (C : Int) * ((P / C : Nat) : Int) := by rw [← Int.natCast_mul]; omega
  rw [Int.mul_neg, ← this]; omega

theorem floor_down (P C : Nat) (hC : 0 < C) (h : 0 < P % C) : (-(P : Int)) / (C : Int) = -(((P / C + 1 : Nat)) : Int) ∧ (-(P : Int)) % (C : Int) = ((C - P % C : Nat) : Int) := by
  have l := Nat.mod_lt P hC
  refine (Int.ediv_emod_unique (by omega)).2 ⟨?_, by omega, by omega⟩
  have d := Nat.div_add_mod P C
  have : (P : Int) = (C : Int) * ((P / C : Nat) : Int) + ((P % C : Nat) : Int) := by rw [← Int.natCast_mul]; omega
  rw [Int.mul_neg, Int.natCast_add, Int.mul_add]
  generalize (C : Int) * ((P / C : Nat) : Int) = z at *
  omega

end Go.Proofs.Ytcjmjbhbdojeiab.Signs
