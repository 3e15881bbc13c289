/-
  Ours: the plain arithmetic under math/bits.Div64: one half-word step of the division, and both of them together. No Go in sight.
-/
namespace Go.Proofs.Ytcjmjbhbdojeiab.Div

/-- What is asked of the divisor's halves and of the two words. -/
structure Halves (y y1 y0 u n : Int) : Prop where
  cut : y = y1 * 4294967296 + y0
  top : 2147483648 ≤ y1
  lt1 : y1 < 4294967296
  ge0 : 0 ≤ y0
  lt0 : y0 < 4294967296
  pos : 0 ≤ u
  below : u < y
  smallp : 0 ≤ n
  small : n < 4294967296

/-- The quotient of one step. -/
def quo (y u n : Int) : Int := (u * 4294967296 + n) / y

theorem mul_halves {y1 y0 q : Int} : q * (y1 * 4294967296 + y0) = q * y1 * 4294967296 + q * y0 := by
  rw [Int.mul_add, Int.mul_assoc]

theorem ypos {y y1 y0 u n : Int} (h : Halves y y1 y0 u n) : 0 < y := by
  have := h.cut; have := h.top; have := h.ge0; omega

theorem quo_nonneg {y y1 y0 u n : Int} (h : Halves y y1 y0 u n) : 0 ≤ quo y u n := by
  have := h.pos; have := h.smallp
  exact Int.ediv_nonneg (by omega) (by have := ypos h; omega)

theorem guess_le {y y1 y0 u n : Int} (h : Halves y y1 y0 u n) : 0 ≤ u / y1 ∧ u / y1 ≤ 4294967297 ∧ 0 ≤ u / y1 * y1 ∧ u / y1 * y1 ≤ u ∧ u - u / y1 * y1 < y1 := by
  have hb := h.below; have hc := h.cut; have ht := h.top; have h0 := h.lt0; have hp := h.pos
  have e : u < 4294967298 * y1 := by omega
  have a := (Int.ediv_lt_iff_lt_mul (by omega : 0 < y1)).2 e
  have b : 0 ≤ u / y1 := Int.ediv_nonneg hp (by omega)
  have c := Int.mul_ediv_add_emod u y1
  have d := Int.emod_nonneg u (by omega : y1 ≠ 0)
  have f := Int.emod_lt_of_pos u (by omega : 0 < y1)
  rw [Int.mul_comm] at c
  refine ⟨b, by omega, Int.mul_nonneg b (by omega), by omega, by omega⟩

theorem quo_lt {y y1 y0 u n : Int} (h : Halves y y1 y0 u n) : quo y u n < 4294967296 := by
  unfold quo
  have hb := h.below; have hs := h.small
  refine (Int.ediv_lt_iff_lt_mul (ypos h)).2 ?_
  omega

theorem quo_mul_le {y y1 y0 u n : Int} (h : Halves y y1 y0 u n) : quo y u n * y ≤ u * 4294967296 + n := Int.ediv_mul_le _ (by have := ypos h; omega)

theorem quo_le_guess {y y1 y0 u n : Int} (h : Halves y y1 y0 u n) : quo y u n ≤ u / y1 := by
  have hs := h.small; have hc := h.cut; have ht := h.top; have h0 := h.ge0
  have e : quo y u n * y ≤ u * 4294967296 + n := quo_mul_le h
  have e0 := quo_nonneg h
  refine (Int.le_ediv_iff_mul_le (by omega : 0 < y1)).2 ?_
  have e2 : quo y u n * y = quo y u n * y1 * 4294967296 + quo y u n * y0 := by rw [← mul_halves, ← hc]
  have e3 : 0 ≤ quo y u n * y0 := Int.mul_nonneg e0 h0
  generalize quo y u n * y1 = a at *
  generalize quo y u n * y0 = b at *
  generalize quo y u n * y = c at *
  omega

/-- The loop's test says yes: the guess is too great. -/
theorem test_yes {y y1 y0 u n q r : Int} (h : Halves y y1 y0 u n) (hq : q * y1 + r = u) (t : 4294967296 ≤ q ∨ 4294967296 * r + n < q * y0) : quo y u n + 1 ≤ q := by
  rcases t with t | t
  · have := quo_lt h; omega
  · have hc := h.cut; have ht := h.top
    have : quo y u n < q := by
      refine (Int.ediv_lt_iff_lt_mul (ypos h)).2 ?_
      rw [hc, mul_halves]
      generalize q * y1 = a at *
      generalize q * y0 = b at *
      omega
    omega

/-- The loop's test says no: the guess is not too great. -/
theorem test_no {y y1 y0 u n q r : Int} (h : Halves y y1 y0 u n) (hq : q * y1 + r = u) (t : q * y0 ≤ 4294967296 * r + n) : q ≤ quo y u n := by
  have hc := h.cut; have ht := h.top
  refine (Int.le_ediv_iff_mul_le (ypos h)).2 ?_
  rw [hc, mul_halves]
  generalize q * y1 = a at *
  generalize q * y0 = b at *
  omega

/-- The break: the rest has left the half word. -/
theorem test_break {y y1 y0 u n q r : Int} (h : Halves y y1 y0 u n) (hq : q * y1 + r = u) (hr : 4294967296 ≤ r) (hk : q ≤ 4294967296) : q ≤ quo y u n := by
  have hc := h.cut; have ht := h.top; have h0 := h.lt0; have hg := h.ge0; have hn := h.smallp
  have e : q * y0 ≤ 4294967296 * y0 := Int.mul_le_mul_of_nonneg_right hk hg
  refine (Int.le_ediv_iff_mul_le (ypos h)).2 ?_
  rw [hc, mul_halves]
  generalize q * y1 = a at *
  generalize q * y0 = b at *
  omega

/-- What the test multiplies stays within a word. -/
theorem test_word {y y1 y0 u n q : Int} (h : Halves y y1 y0 u n) (h0 : 0 ≤ q) (h1 : q ≤ 4294967297) : 0 ≤ q * y0 ∧ q * y0 < 18446744073709551616 := by
  have hg := h.ge0; have hl := h.lt0
  have e : q * y0 ≤ 4294967297 * y0 := Int.mul_le_mul_of_nonneg_right h1 hg
  exact ⟨Int.mul_nonneg h0 hg, by omega⟩

theorem rest_eq (y u n : Int) : u * 4294967296 + n - quo y u n * y = (u * 4294967296 + n) % y := by
  unfold quo
  have := Int.mul_ediv_add_emod (u * 4294967296 + n) y
  rw [Int.mul_comm] at this
  omega

theorem two_steps_aux (y a n0 : Int) (hy : 0 < y) :
    (a * 4294967296 + n0) / y = a / y * 4294967296 + (a % y * 4294967296 + n0) / y ∧ (a * 4294967296 + n0) % y = (a % y * 4294967296 + n0) % y := by
  have d := Int.mul_ediv_add_emod a y
  have e2 : a * 4294967296 + n0 = (a % y * 4294967296 + n0) + y * (a / y * 4294967296) := by
    have h : a * 4294967296 = (y * (a / y) + a % y) * 4294967296 := by rw [d]
    rw [h, Int.add_mul, Int.mul_assoc]
    omega
  refine ⟨?_, ?_⟩
  · rw [e2, Int.add_mul_ediv_left _ _ (by omega)]; omega
  · rw [e2, Int.add_mul_emod_self_left]

/-- Two steps are the whole division. -/
theorem two_steps (y u n1 n0 : Int) (hy : 0 < y) :
    (u * 18446744073709551616 + n1 * 4294967296 + n0) / y = quo y u n1 * 4294967296 + quo y ((u * 4294967296 + n1) % y) n0 ∧
    (u * 18446744073709551616 + n1 * 4294967296 + n0) % y = ((u * 4294967296 + n1) % y * 4294967296 + n0) % y := by
  have e : u * 18446744073709551616 + n1 * 4294967296 + n0 = (u * 4294967296 + n1) * 4294967296 + n0 := by omega
  rw [e]
  exact two_steps_aux y _ n0 hy

end Go.Proofs.Ytcjmjbhbdojeiab.Div
