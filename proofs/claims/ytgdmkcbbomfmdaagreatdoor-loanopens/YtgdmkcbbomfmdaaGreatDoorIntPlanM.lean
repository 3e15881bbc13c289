/-
  Ours: plans by whole numbers: the rows of a plan, and what is kept from month to month. No Go in sight.
-/
import Derived.Test.YtgdmkcbbomfmdaaGreatDoorIntMath
namespace Go.Proofs.YtgdmkcbbomfmdaaGreatDoor.IntM

/-- The principal part of a month. -/
def partI (kind P : Int) (n : Nat) (pay : Int) (k : Nat) (b i : Int) : Int :=
  if kind = 0 then min (pay - i) b else if kind = 1 then (if (k : Int) ≤ P % (n : Int) then P / (n : Int) + 1 else P / (n : Int)) else if k < n then 0 else b

/-- The rows from place k on, the balance being b; none where a due day is refused. -/
def planF (r : Int) (pf : Nat → Int → Int → Int) (due : Nat → Option Int) : Nat → Nat → Int → Option (List (Int × Int × Int))
  | 0, _, _ => some []
  | m + 1, k, b => if b = 0 then some [] else if mon b r = 0 ∧ pf (k + 1) b (mon b r) = 0 then planF r pf due m (k + 1) b else
    match due (k + 1) with
    | none => none
    | some d => (planF r pf due m (k + 1) (b - pf (k + 1) b (mon b r))).map ((d, mon b r, pf (k + 1) b (mon b r)) :: ·)

section
variable {r : Int} {pf : Nat → Int → Int → Int} {due : Nat → Option Int}
theorem planF_none (k : Nat) (b : Int) : planF r pf due 0 k b = some [] := rfl
theorem planF_zero (m k : Nat) : planF r pf due m k 0 = some [] := by cases m <;> simp [planF]
theorem planF_skip {m k : Nat} {b : Int} (hb : b ≠ 0) (h : mon b r = 0 ∧ pf (k + 1) b (mon b r) = 0) : planF r pf due (m + 1) k b = planF r pf due m (k + 1) b := by
  rw [planF, if_neg hb, if_pos h]
theorem planF_no {m k : Nat} {b : Int} (hb : b ≠ 0) (h : ¬ (mon b r = 0 ∧ pf (k + 1) b (mon b r) = 0)) (hd : due (k + 1) = none) : planF r pf due (m + 1) k b = none := by
  rw [planF, if_neg hb, if_neg h, hd]
theorem planF_row {m k : Nat} {b d : Int} (hb : b ≠ 0) (h : ¬ (mon b r = 0 ∧ pf (k + 1) b (mon b r) = 0)) (hd : due (k + 1) = some d) :
    planF r pf due (m + 1) k b = (planF r pf due m (k + 1) (b - pf (k + 1) b (mon b r))).map ((d, mon b r, pf (k + 1) b (mon b r)) :: ·) := by
  rw [planF, if_neg hb, if_neg h, hd]
end

/-- What is kept: the balance ahead of place k. -/
def Inv (kind P r : Int) (n : Nat) (pay : Int) (k : Nat) (b : Int) : Prop :=
  0 ≤ b ∧ b ≤ P ∧ (kind = 0 → b = 0 ∨ pays r pay (n - k) b = true) ∧ (kind = 1 → b = P - ((k : Int) * (P / (n : Int)) + min (k : Int) (P % (n : Int)))) ∧ (kind = 2 → b = 0 ∨ (b = P ∧ k < n))

theorem inv_start {kind P r pay : Int} {n : Nat} (P0 : 1 ≤ P) (n0 : 1 ≤ n) (hp : kind = 0 → pays r pay n P = true) : Inv kind P r n pay 0 P := by
  refine ⟨by omega, by omega, fun h => .inr ?_, fun _ => ?_, fun _ => .inr ⟨rfl, by omega⟩⟩
  · simpa using hp h
  · have : 0 ≤ P % (n : Int) := Int.emod_nonneg _ (by omega)
    have e : min ((0 : Nat) : Int) (P % (n : Int)) = 0 := by omega
    rw [e]; simp

theorem inv_end {kind P r pay b : Int} {n : Nat} (n0 : 1 ≤ n) (hk : kind = 0 ∨ kind = 1 ∨ kind = 2) (h : Inv kind P r n pay n b) : b = 0 := by
  obtain ⟨_, _, h0, h1, h2⟩ := h
  rcases hk with hk | hk | hk
  · rcases h0 hk with h | h
    · exact h
    · rw [Nat.sub_self, pays_zero] at h; cases h
  · have := h1 hk
    have e := Int.mul_ediv_add_emod P (n : Int)
    have l := Int.emod_lt_of_pos P (show (0 : Int) < (n : Int) by omega)
    generalize (n : Int) * (P / (n : Int)) = z at *
    omega
  · rcases h2 hk with h | h
    · exact h
    · omega

theorem inv_step {kind P r pay b : Int} {n k : Nat} (n0 : 1 ≤ n) (hk : kind = 0 ∨ kind = 1 ∨ kind = 2) (r0 : 0 ≤ r) (h : Inv kind P r n pay k b) (hb : b ≠ 0) (kn : k < n) :
    0 ≤ partI kind P n pay (k + 1) b (mon b r) ∧ partI kind P n pay (k + 1) b (mon b r) ≤ b ∧ Inv kind P r n pay (k + 1) (b - partI kind P n pay (k + 1) b (mon b r)) ∧ (kind ≠ 2 → 1 ≤ partI kind P n pay (k + 1) b (mon b r)) := by
  obtain ⟨b0, b1, h0, h1, h2⟩ := h
  have m0 := mon_nonneg b0 r0
  rcases hk with hk | hk | hk
  · subst hk
    unfold partI
    rw [if_pos rfl]
    obtain ⟨j, hj⟩ : ∃ j, n - k = j + 1 := ⟨n - k - 1, by omega⟩
    have hp : pays r pay (j + 1) b = true := by
      rw [← hj]; rcases h0 rfl with h | h
      · exact absurd h hb
      · exact h
    by_cases g1 : pay - mon b r ≤ 0
    · rw [pays_never j g1] at hp; cases hp
    · refine ⟨by omega, by omega, ⟨by omega, by omega, fun _ => ?_, (fun e => by cases e), (fun e => by cases e)⟩, fun _ => by omega⟩
      by_cases g2 : b ≤ pay - mon b r
      · left; omega
      · right
        rw [pays_on j g1 g2] at hp
        rw [show n - (k + 1) = j by omega, show min (pay - mon b r) b = pay - mon b r by omega]
        exact hp
  · subst hk
    unfold partI
    rw [if_neg (by decide), if_pos rfl]
    have e := Int.mul_ediv_add_emod P (n : Int)
    have l := Int.emod_lt_of_pos P (show (0 : Int) < (n : Int) by omega)
    have l0 := Int.emod_nonneg P (show (n : Int) ≠ 0 by omega)
    have hh := h1 rfl
    have q0 : 0 ≤ P / (n : Int) := Int.ediv_nonneg (by omega) (by omega)
    have c1 : ((k + 1 : Nat) : Int) * (P / (n : Int)) = (k : Int) * (P / (n : Int)) + P / (n : Int) := by
      rw [Int.natCast_add, Int.add_mul]; simp
    have c2 : ((k + 1 : Nat) : Int) * (P / (n : Int)) ≤ (n : Int) * (P / (n : Int)) := Int.mul_le_mul_of_nonneg_right (by omega) q0
    have c3 : P / (n : Int) = 0 → (k : Int) * (P / (n : Int)) = 0 ∧ (n : Int) * (P / (n : Int)) = 0 := fun h => by rw [h]; simp
    have g0 : 0 ≤ b - (if ((k + 1 : Nat) : Int) ≤ P % (n : Int) then P / (n : Int) + 1 else P / (n : Int)) ∧ b - (if ((k + 1 : Nat) : Int) ≤ P % (n : Int) then P / (n : Int) + 1 else P / (n : Int)) = P - (((k + 1 : Nat) : Int) * (P / (n : Int)) + min ((k + 1 : Nat) : Int) (P % (n : Int))) ∧ 1 ≤ (if ((k + 1 : Nat) : Int) ≤ P % (n : Int) then P / (n : Int) + 1 else P / (n : Int)) := by
      rw [c1] at c2 ⊢
      generalize P / (n : Int) = q at *
      generalize (n : Int) * q = y at *
      generalize (k : Int) * q = x at *
      generalize P % (n : Int) = v at *
      by_cases hq : q = 0
      · obtain ⟨z1, z2⟩ := c3 hq
        split <;> omega
      · clear c3
        split <;> omega
    obtain ⟨g1, g2, g3⟩ := g0
    exact ⟨by omega, by omega, ⟨g1, by omega, (fun e => by cases e), fun _ => g2, (fun e => by cases e)⟩, fun _ => g3⟩
  · subst hk
    unfold partI
    rw [if_neg (by decide), if_neg (by decide)]
    obtain ⟨hP, _⟩ : b = P ∧ k < n := by
      rcases h2 rfl with h | h
      · exact absurd h hb
      · exact h
    by_cases g : k + 1 < n
    · rw [if_pos g]
      exact ⟨by omega, by omega, ⟨by omega, by omega, (fun e => by cases e), (fun e => by cases e), fun _ => .inr ⟨by omega, g⟩⟩, fun h => absurd rfl h⟩
    · rw [if_neg g]
      exact ⟨by omega, by omega, ⟨by omega, by omega, (fun e => by cases e), (fun e => by cases e), fun _ => .inl (by omega)⟩, fun h => absurd rfl h⟩
end Go.Proofs.YtgdmkcbbomfmdaaGreatDoor.IntM
