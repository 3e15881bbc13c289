/-
  Ours: the plain arithmetic of a split: floors, rests, what is missing. No Go in sight.
-/
namespace Go.Proofs.YtfdahdloihgjeacDoor.Spl

/-- The sum of the first k values. -/
def sumTo (q : Nat → Int) : Nat → Int
  | 0 => 0
  | k + 1 => sumTo q k + q k

theorem sumTo_nonneg {q : Nat → Int} : ∀ k, (∀ i, i < k → 0 ≤ q i) → 0 ≤ sumTo q k
  | 0, _ => Int.le_refl _
  | k + 1, h => by have := sumTo_nonneg k fun i hi => h i (by omega); have := h k (by omega); simp only [sumTo]; omega
theorem sumTo_mono {q : Nat → Int} {k n : Nat} (h : ∀ i, i < n → 0 ≤ q i) (hk : k ≤ n) : sumTo q k ≤ sumTo q n := by
  induction n with
  | zero => obtain rfl : k = 0 := by omega
            exact Int.le_refl _
  | succ n ih =>
    by_cases e : k = n + 1
    · rw [e]; exact Int.le_refl _
    · have := ih (fun i hi => h i (by omega)) (by omega)
      have := h n (by omega)
      simp only [sumTo]; omega
theorem sumTo_congr {q q' : Nat → Int} : ∀ k, (∀ i, i < k → q i = q' i) → sumTo q k = sumTo q' k
  | 0, _ => rfl
  | k + 1, h => by simp only [sumTo]; rw [sumTo_congr k fun i hi => h i (by omega), h k (by omega)]
theorem sumTo_le {q : Nat → Int} {c : Int} : ∀ k, (∀ i, i < k → q i ≤ c) → sumTo q k ≤ c * k
  | 0, _ => by simp [sumTo]
  | k + 1, h => by
    have := sumTo_le k fun i hi => h i (by omega)
    have := h k (by omega)
    simp only [sumTo]
    rw [show c * ((k + 1 : Nat) : Int) = c * (k : Int) + c from by rw [Int.natCast_add, Int.mul_add]; simp]
    omega
theorem sumTo_div (T W : Int) (w : Nat → Int) : ∀ k, T * sumTo w k = W * sumTo (fun i => T * w i / W) k + sumTo (fun i => T * w i % W) k
  | 0 => by simp [sumTo]
  | k + 1 => by
    simp only [sumTo]
    rw [Int.mul_add, sumTo_div T W w k, Int.mul_add]
    have := Int.mul_ediv_add_emod (T * w k) W
    omega

/-- Fewer cents are missing than there are parts. -/
theorem missing (T W : Int) (w : Nat → Int) (n : Nat) (hT : 0 ≤ T) (hW : 0 < W) (hw : ∀ i, i < n → 0 ≤ w i) (hs : sumTo w n = W) :
    0 ≤ T - sumTo (fun i => T * w i / W) n ∧ T - sumTo (fun i => T * w i / W) n ≤ n ∧ ∀ k, k ≤ n → 0 ≤ sumTo (fun i => T * w i / W) k ∧ sumTo (fun i => T * w i / W) k ≤ T := by
  have d := sumTo_div T W w n
  rw [hs] at d
  have q0 : ∀ i, i < n → 0 ≤ T * w i / W := fun i hi => Int.ediv_nonneg (Int.mul_nonneg hT (hw i hi)) (by omega)
  have r0 : 0 ≤ sumTo (fun i => T * w i % W) n := sumTo_nonneg n fun i _ => Int.emod_nonneg _ (by omega)
  have r1 : sumTo (fun i => T * w i % W) n ≤ W * n := sumTo_le n fun i _ => by have := Int.emod_lt_of_pos (T * w i) hW; omega
  have e : W * (T - sumTo (fun i => T * w i / W) n) = sumTo (fun i => T * w i % W) n := by
    rw [Int.mul_sub, Int.mul_comm W T]; omega
  have lo : 0 ≤ T - sumTo (fun i => T * w i / W) n := by
    by_cases h : 0 ≤ T - sumTo (fun i => T * w i / W) n
    · exact h
    · have : W * (T - sumTo (fun i => T * w i / W) n) < 0 := Int.mul_neg_of_pos_of_neg hW (by omega)
      omega
  have hi : T - sumTo (fun i => T * w i / W) n ≤ n := by
    by_cases h : T - sumTo (fun i => T * w i / W) n ≤ n
    · exact h
    · have : W * n < W * (T - sumTo (fun i => T * w i / W) n) := Int.mul_lt_mul_of_pos_left (by omega) hW
      omega
  refine ⟨lo, hi, fun k hk => ⟨sumTo_nonneg k fun i hi => q0 i (by omega), ?_⟩⟩
  have := sumTo_mono q0 hk
  omega

theorem part_le (T W w : Int) (hT : 0 ≤ T) (hW : 0 < W) (hw : 0 ≤ w) (hle : w ≤ W) : 0 ≤ T * w / W ∧ T * w / W ≤ T := by
  refine ⟨Int.ediv_nonneg (Int.mul_nonneg hT hw) (by omega), ?_⟩
  have : T * w ≤ T * W := Int.mul_le_mul_of_nonneg_left hle hT
  have h2 : T * w / W < T + 1 := (Int.ediv_lt_iff_lt_mul hW).2 (by rw [Int.add_mul]; omega)
  omega
theorem one_le {w : Nat → Int} {n : Nat} (hw : ∀ i, i < n → 0 ≤ w i) {i : Nat} (hi : i < n) : w i ≤ sumTo w n := by
  have h1 := sumTo_mono (k := i + 1) hw (by omega)
  have h2 := sumTo_nonneg i fun j hj => hw j (by omega)
  simp only [sumTo] at h1; omega

/-- The parts behind k of the missing cents. -/
def parts (q : Nat → Int) (f : Nat → Nat) (k : Nat) : Nat → Int := fun i => if ∃ j, j < k ∧ f j = i then q i + 1 else q i
theorem parts_zero (q : Nat → Int) (f : Nat → Nat) : parts q f 0 = q := by
  funext i; unfold parts; rw [if_neg]; rintro ⟨j, hj, _⟩; omega
theorem parts_at (q : Nat → Int) (f : Nat → Nat) (k : Nat) (inj : ∀ j, j < k → f j ≠ f k) : parts q f k (f k) = q (f k) := by
  unfold parts; rw [if_neg]; rintro ⟨j, hj, e⟩; exact inj j hj e
theorem parts_step (q : Nat → Int) (f : Nat → Nat) (k : Nat) : (fun i => if i = f k then q (f k) + 1 else parts q f k i) = parts q f (k + 1) := by
  funext i
  unfold parts
  by_cases e : i = f k
  · subst e; rw [if_pos rfl, if_pos ⟨k, by omega, rfl⟩]
  · rw [if_neg e]
    by_cases h : ∃ j, j < k ∧ f j = i
    · obtain ⟨j, h1, h2⟩ := h
      rw [if_pos ⟨j, h1, h2⟩, if_pos ⟨j, by omega, h2⟩]
    · rw [if_neg h, if_neg]
      rintro ⟨j, h1, h2⟩
      by_cases c : j = k
      · subst c; exact e h2.symm
      · exact h ⟨j, by omega, h2⟩

end Go.Proofs.YtfdahdloihgjeacDoor.Spl
