/-
  Ours: the plain facts on the parts of a split. No Go in sight.
-/
import Derived.Test.YtfdahdloihgjeacDoorSplitMath
import Derived.Test.YtfdahdloihgjeacDoorStable
namespace Go.Proofs.YtfdahdloihgjeacDoor.Spl
open Stable

theorem sumTo_none : ∀ n, sumTo (fun _ => (0 : Int)) n = 0
  | 0 => rfl
  | n + 1 => by simp only [sumTo]; rw [sumTo_none n]; rfl

theorem sumTo_upd (q : Nat → Int) (i : Nat) (x : Int) : ∀ n, sumTo (fun k => if k = i then x else q k) n = sumTo q n + (if i < n then x - q i else 0)
  | 0 => by simp [sumTo]
  | n + 1 => by
    simp only [sumTo]
    rw [sumTo_upd q i x n]
    by_cases h : n = i
    · subst h; rw [if_neg (by omega), if_pos rfl, if_pos (by omega)]; omega
    · by_cases c : i < n
      · rw [if_pos c, if_neg h, if_pos (by omega)]; omega
      · rw [if_neg c, if_neg h, if_neg (by omega)]; omega

theorem sum_parts (q : Nat → Int) (f : Nat → Nat) (n : Nat) (inj : ∀ i j, i < j → j < n → f i ≠ f j) (lt : ∀ i, i < n → f i < n) : ∀ j, j ≤ n → sumTo (parts q f j) n = sumTo q n + j
  | 0, _ => by rw [parts_zero]; simp
  | j + 1, h => by
    rw [← parts_step q f j, sumTo_upd, sum_parts q f n inj lt j (by omega), if_pos (lt j (by omega)), parts_at q f j (fun i hi => inj i j hi (by omega))]
    omega

structure Sh (T W : Int) (w : Nat → Int) (n : Nat) (f : Nat → Nat) : Prop where
  T0 : 0 ≤ T
  W0 : 0 < W
  pos : ∀ i, i < n → 0 ≤ w i
  sum : sumTo w n = W
  shuf : Shuf 0 n (fun i => i) f
  sorted : Sorted (fun i => T * w i % W) 0 n f

def mis (T W : Int) (w : Nat → Int) (n : Nat) : Nat := (T - sumTo (fun i => T * w i / W) n).toNat
def prt (T W : Int) (w : Nat → Int) (n : Nat) (f : Nat → Nat) : Nat → Int := parts (fun i => T * w i / W) f (mis T W w n)

section
variable {T W : Int} {w : Nat → Int} {n : Nat} {f : Nat → Nat}

theorem Sh.inj (h : Sh T W w n f) : ∀ i j, i < j → j < n → f i ≠ f j := fun i j h1 h2 e => by
  have := h.sorted i j (Nat.zero_le _) h1 h2; rw [e] at this; exact this.irrefl
theorem Sh.lt (h : Sh T W w n f) : ∀ i, i < n → f i < n := fun i hi => by
  obtain ⟨j, _, j2, e⟩ := h.shuf.into i (Nat.zero_le _) hi
  rw [e]; exact j2
theorem Sh.onto (h : Sh T W w n f) : ∀ i, i < n → ∃ j, j < n ∧ f j = i := fun i hi => by
  obtain ⟨j, _, j2, e⟩ := h.shuf.onto i (Nat.zero_le _) hi
  exact ⟨j, j2, e⟩
theorem Sh.mis_eq (h : Sh T W w n f) : (mis T W w n : Int) = T - sumTo (fun i => T * w i / W) n ∧ mis T W w n ≤ n := by
  obtain ⟨a, b, _⟩ := missing T W w n h.T0 h.W0 h.pos h.sum
  unfold mis; omega
theorem Sh.total (h : Sh T W w n f) : sumTo (prt T W w n f) n = T := by
  unfold prt
  rw [sum_parts _ f n h.inj h.lt _ h.mis_eq.2, h.mis_eq.1]; omega
theorem Sh.q0 (h : Sh T W w n f) {i : Nat} (hi : i < n) : 0 ≤ T * w i / W := Int.ediv_nonneg (Int.mul_nonneg h.T0 (h.pos i hi)) (by have := h.W0; omega)
theorem Sh.bounds (h : Sh T W w n f) {i : Nat} (hi : i < n) : 0 ≤ prt T W w n f i ∧ T * w i / W ≤ prt T W w n f i ∧ prt T W w n f i ≤ T * w i / W + 1 := by
  have := h.q0 hi
  unfold prt parts
  dsimp only
  split <;> omega
theorem Sh.le_left (h : Sh T W w n f) {i : Nat} (hi : i < n) : prt T W w n f i ≤ T - sumTo (prt T W w n f) i ∧ 0 ≤ sumTo (prt T W w n f) i ∧ sumTo (prt T W w n f) i ≤ T := by
  have m := sumTo_mono (q := prt T W w n f) (k := i + 1) (n := n) (fun j hj => (h.bounds hj).1) (by omega)
  have z := sumTo_nonneg (q := prt T W w n f) i (fun j hj => (h.bounds (by omega)).1)
  have b := (h.bounds hi).1
  rw [h.total] at m
  simp only [sumTo] at m
  omega

/-- Whoever gets a missing cent has a rest. -/
theorem Sh.rest_pos (h : Sh T W w n f) {j : Nat} (hj : j < mis T W w n) : 0 < T * w (f j) % W := by
  have hW := h.W0
  have hm := h.mis_eq
  have r0 : ∀ i, 0 ≤ T * w i % W := fun i => Int.emod_nonneg _ (by omega)
  have r1 : ∀ i, T * w i % W ≤ W - 1 := fun i => by have := Int.emod_lt_of_pos (T * w i) hW; omega
  by_cases c : 0 < T * w (f j) % W
  · exact c
  · -- all behind place j have no rest either
    have z : ∀ i, i < n → (¬ ∃ k, k < j ∧ f k = i) → T * w i % W = 0 := fun i hi no => by
      obtain ⟨k, k1, rfl⟩ := h.onto i hi
      have kj : j ≤ k := by
        by_cases q : k < j
        · exact absurd ⟨k, q, rfl⟩ no
        · omega
      by_cases e : k = j
      · subst e; have := r0 (f k); omega
      · have l := h.sorted j k (Nat.zero_le _) (by omega) k1
        have := r0 (f k); have := r0 (f j)
        simp only [Stable.LT] at l; omega
    have s1 : sumTo (fun i => T * w i % W) n ≤ sumTo (fun i => (W - 1) * parts (fun _ => 0) f j i) n := by
      have key : ∀ m, m ≤ n → sumTo (fun i => T * w i % W) m ≤ sumTo (fun i => (W - 1) * parts (fun _ => 0) f j i) m := by
        intro m
        induction m with
        | zero => intro _; simp [sumTo]
        | succ m ih =>
          intro hm
          have := ih (by omega)
          simp only [sumTo]
          have e : T * w m % W ≤ (W - 1) * parts (fun _ => 0) f j m := by
            unfold parts
            by_cases q : ∃ k, k < j ∧ f k = m
            · rw [if_pos q, Int.zero_add, Int.mul_one]; exact r1 m
            · rw [if_neg q, z m (by omega) q, Int.mul_zero]; exact Int.le_refl _
          omega
      exact key n (Nat.le_refl _)
    have s2 : sumTo (fun i => (W - 1) * parts (fun _ => 0) f j i) n = (W - 1) * (j : Int) := by
      have lin : ∀ m, sumTo (fun i => (W - 1) * parts (fun _ => 0) f j i) m = (W - 1) * sumTo (parts (fun _ => 0) f j) m := by
        intro m
        induction m with
        | zero => simp [sumTo]
        | succ m ih => simp only [sumTo]; rw [ih, Int.mul_add]
      rw [lin, sum_parts _ f n h.inj h.lt j (by omega)]
      rw [sumTo_none, Int.zero_add]
    have d := sumTo_div T W w n
    rw [h.sum] at d
    have e : W * (mis T W w n : Int) = sumTo (fun i => T * w i % W) n := by
      rw [hm.1, Int.mul_sub, Int.mul_comm W T]; omega
    have g1 : W * ((j : Int) + 1) ≤ W * (mis T W w n : Int) := Int.mul_le_mul_of_nonneg_left (by omega) (by omega)
    rw [Int.mul_add] at g1
    have g2 : (W - 1) * (j : Int) = W * (j : Int) - (j : Int) := by rw [Int.sub_mul, Int.one_mul]
    omega

theorem Sh.zero (h : Sh T W w n f) {i : Nat} (hw : w i = 0) : prt T W w n f i = 0 := by
  unfold prt parts
  dsimp only
  rw [if_neg, hw]
  · simp
  · rintro ⟨j, hj, e⟩
    have := h.rest_pos hj
    rw [e, hw] at this
    simp at this

/-- Does place i get a missing cent? -/
theorem Sh.cases (h : Sh T W w n f) {i : Nat} (hi : i < n) : (∃ a, a < mis T W w n ∧ f a = i ∧ prt T W w n f i = T * w i / W + 1) ∨ (∃ b, mis T W w n ≤ b ∧ b < n ∧ f b = i ∧ prt T W w n f i = T * w i / W) := by
  obtain ⟨k, k1, e⟩ := h.onto i hi
  by_cases c : k < mis T W w n
  · left; exact ⟨k, c, e, by unfold prt parts; rw [if_pos ⟨k, c, e⟩]⟩
  · right
    refine ⟨k, by omega, k1, e, ?_⟩
    unfold prt parts
    rw [if_neg]
    rintro ⟨j, hj, e2⟩
    have hm := h.mis_eq.2
    exact h.inj j k (by omega) k1 (e2.trans e.symm)

/-- Of two places with the same floor: the one that gets a cent comes first in the order. -/
theorem Sh.first (h : Sh T W w n f) {i j : Nat} (hi : i < n) (hj : j < n) (q : T * w i / W = T * w j / W) (lt : prt T W w n f i < prt T W w n f j) : Stable.LT (fun k => T * w k % W) j i := by
  have hm := h.mis_eq.2
  rcases h.cases hi with ⟨a, a1, a2, a3⟩ | ⟨a, a1, a4, a2, a3⟩
  · rcases h.cases hj with ⟨b, b1, b2, b3⟩ | ⟨b, b1, b4, b2, b3⟩ <;> omega
  · rcases h.cases hj with ⟨b, b1, b2, b3⟩ | ⟨b, b1, b4, b2, b3⟩
    · have := h.sorted b a (Nat.zero_le _) (by omega) a4
      rw [a2, b2] at this; exact this
    · omega

theorem div_mono (h : Sh T W w n f) {i j : Nat} (hij : w i ≤ w j) : T * w i / W ≤ T * w j / W := Int.ediv_le_ediv h.W0 (Int.mul_le_mul_of_nonneg_left hij h.T0)

theorem Sh.greater (h : Sh T W w n f) {i j : Nat} (hi : i < n) (hj : j < n) (hw : w i < w j) : prt T W w n f i ≤ prt T W w n f j := by
  by_cases c : prt T W w n f i ≤ prt T W w n f j
  · exact c
  · have m := div_mono h (Int.le_of_lt hw)
    have b1 := h.bounds hi
    have b2 := h.bounds hj
    have q : T * w j / W = T * w i / W := by omega
    have l := h.first hj hi q (by omega)
    have d1 := Int.mul_ediv_add_emod (T * w i) W
    have d2 := Int.mul_ediv_add_emod (T * w j) W
    rw [q] at d2
    have t : T * w i ≤ T * w j := Int.mul_le_mul_of_nonneg_left (Int.le_of_lt hw) h.T0
    -- equal rests force a total of 0, and then no cent is missing
    have e : T * w i = T * w j := by
      simp only [Stable.LT] at l
      generalize W * (T * w i / W) = z at *
      omega
    have z : T = 0 := by
      by_cases tz : T = 0
      · exact tz
      · have := Int.mul_lt_mul_of_pos_left hw (show 0 < T by have := h.T0; omega)
        omega
    rcases h.cases hi with ⟨a, a1, a2, a3⟩ | ⟨a, a1, a4, a2, a3⟩
    · have := h.rest_pos a1
      rw [z] at this
      simp at this
    · omega

theorem Sh.equal (h : Sh T W w n f) {i j : Nat} (hij : i < j) (hj : j < n) (hw : w i = w j) : prt T W w n f i = prt T W w n f j ∨ prt T W w n f i = prt T W w n f j + 1 := by
  have b1 := h.bounds (show i < n by omega)
  have b2 := h.bounds hj
  have q : T * w i / W = T * w j / W := by rw [hw]
  by_cases c : prt T W w n f i < prt T W w n f j
  · have l := h.first (show i < n by omega) hj q c
    have r : T * w i % W = T * w j % W := by rw [hw]
    simp only [Stable.LT] at l
    omega
  · omega
end

end Go.Proofs.YtfdahdloihgjeacDoor.Spl
