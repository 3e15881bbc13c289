/-
  Ours: the rounding of a fee: pure.
-/
import Derived.Test.YtcjmjbhbdojeiaaPolFee
namespace Go.Proofs.Ytcjmjbhbdojeiaa
open Go.RowKit LedM PolM Signs
namespace PolM
theorem rnd_mono {P Q C : Nat} (hC : 0 < C) (h : P ≤ Q) : rnd P C ≤ rnd Q C := by
  have hq : P / C ≤ Q / C := Nat.div_le_div_right h
  have e1 := Nat.div_add_mod P C
  have e2 := Nat.div_add_mod Q C
  have l1 := Nat.mod_lt P hC
  have l2 := Nat.mod_lt Q hC
  unfold rnd upB
  rcases Nat.lt_or_ge (P / C) (Q / C) with hlt | hge
  · split <;> split <;> omega
  · have e : P / C = Q / C := by omega
    rw [e] at e1 ⊢
    have hm : P % C ≤ Q % C := by omega
    generalize P % C = p at *
    generalize Q % C = q at *
    generalize Q / C = d at *
    by_cases h1 : C - p < p ∨ (p = C - p ∧ d % 2 = 1)
    · have h2 : C - q < q ∨ (q = C - q ∧ d % 2 = 1) := by omega
      simp [h1, h2]
    · simp only [h1, decide_false, Bool.false_eq_true, if_false]
      split <;> omega
theorem rnd_whole (a C : Nat) (hC : 0 < C) : rnd (a * C) C = a := by
  unfold rnd upB
  rw [Nat.mul_mod_left, Nat.mul_div_cancel _ hC]
  simp
  omega
/-- The part of an amount that isn't below 0, at a rate up to the whole. -/
theorem bps_part {a r : Int} (a0 : 0 ≤ a) (a1 : a ≤ 9223372036854775807) (r0 : 0 ≤ r) (r1 : r ≤ 10000) :
    mdOk a r 10000 = true ∧ mdV a r 10000 = (rnd (a.natAbs * r.natAbs) 10000 : Nat) ∧ 0 ≤ mdV a r 10000 ∧ mdV a r 10000 ≤ a := by
  have hle : rnd (a.natAbs * r.natAbs) 10000 ≤ a.natAbs := by
    have h1 : a.natAbs * r.natAbs ≤ a.natAbs * 10000 := Nat.mul_le_mul_left _ (by omega)
    have := rnd_mono (C := 10000) (by decide) h1
    rwa [rnd_whole _ _ (by decide)] at this
  have hn : neg3 a r 10000 = false := by
    unfold neg3 Signs.neg2
    rw [decide_eq_false (by omega : ¬ a < 0), decide_eq_false (by omega : ¬ r < 0)]; rfl
  have hok : mdOk a r 10000 = true := by
    unfold mdOk
    rw [hn]
    show (decide (0 < (10000 : Int).natAbs) && sgOk false (rnd (a.natAbs * r.natAbs) 10000)) = true
    simp [sgOk]
    omega
  have hv : mdV a r 10000 = (rnd (a.natAbs * r.natAbs) 10000 : Nat) := by
    unfold mdV
    rw [hok, hn]
    show (if true = true then sgV false (rnd (a.natAbs * r.natAbs) 10000) else 0) = _
    have hs : sgOk false (rnd (a.natAbs * r.natAbs) 10000) = true := by simp [sgOk]; omega
    simp [sgV, hs]
  refine ⟨hok, hv, by rw [hv]; omega, by rw [hv]; omega⟩
theorem bps_mono {a r : Int} (a0 : 0 ≤ a) (a1 : a + 1 ≤ 9223372036854775807) (r0 : 0 ≤ r) (r1 : r ≤ 10000) : mdV a r 10000 ≤ mdV (a + 1) r 10000 := by
  obtain ⟨_, h1, _, _⟩ := bps_part a0 (by omega) r0 r1
  obtain ⟨_, h2, _, _⟩ := bps_part (a := a + 1) (by omega) a1 r0 r1
  rw [h1, h2]
  have h3 : a.natAbs * r.natAbs ≤ (a + 1).natAbs * r.natAbs := Nat.mul_le_mul_right _ (by omega)
  have := rnd_mono (C := 10000) (by decide) h3
  omega
theorem clV_mono {x y a b : Int} (h : x ≤ y) : clV x a b ≤ clV y a b ∨ b < a := by
  unfold clV
  split <;> split <;> (try split) <;> omega
end PolM
end Go.Proofs.Ytcjmjbhbdojeiaa
