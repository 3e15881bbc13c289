/-
  Ours: exchanged ranges, rotations and the symmetric merge, as functions. No Go in sight.
-/
import Derived.Test.YtfdahdloihgjeacDoorStable
namespace Go.Proofs.YtfdahdloihgjeacDoor.Stable

/-- The ranges from a and from b, n places each, exchanged. -/
def swapR (f : Nat → Nat) (a b n : Nat) : Nat → Nat := fun k => if a ≤ k ∧ k < a + n then f (b + (k - a)) else if b ≤ k ∧ k < b + n then f (a + (k - b)) else f k
theorem swapR_zero (f : Nat → Nat) (a b : Nat) : swapR f a b 0 = f := by
  funext k; unfold swapR; rw [if_neg (by omega), if_neg (by omega)]
theorem swapR_succ (f : Nat → Nat) (a b i : Nat) (h : a + i < b) : swap (swapR f a b i) (a + i) (b + i) = swapR f a b (i + 1) := by
  funext k
  have e1 : swapR f a b i (a + i) = f (a + i) := by unfold swapR; rw [if_neg (by omega), if_neg (by omega)]
  have e2 : swapR f a b i (b + i) = f (b + i) := by unfold swapR; rw [if_neg (by omega), if_neg (by omega)]
  unfold swap
  rw [e1, e2]
  by_cases h1 : k = a + i
  · subst h1; rw [if_pos rfl]; unfold swapR; rw [if_pos (by omega)]; congr 1; omega
  · rw [if_neg h1]
    by_cases h2 : k = b + i
    · subst h2; rw [if_pos rfl]; unfold swapR; rw [if_neg (by omega), if_pos (by omega)]; congr 1; omega
    · rw [if_neg h2]
      unfold swapR
      by_cases c1 : a ≤ k ∧ k < a + i
      · rw [if_pos c1, if_pos (by omega)]
      · by_cases c2 : b ≤ k ∧ k < b + i
        · rw [if_neg c1, if_pos c2, if_neg (by omega), if_pos (by omega)]
        · rw [if_neg c1, if_neg c2, if_neg (by omega), if_neg (by omega)]

/-- The ranges [a, m) and [m, b) exchanged. -/
def rot (f : Nat → Nat) (a m b : Nat) : Nat → Nat := fun k => if a ≤ k ∧ k < a + (b - m) then f (k + (m - a)) else if a + (b - m) ≤ k ∧ k < b then f (k - (b - m)) else f k
theorem rot_left (f : Nat → Nat) (m i j : Nat) (hi : i ≤ m) (h : j < i) (h0 : 0 < j) : rot (swapR f (m - i) m j) (m - (i - j)) m (m + j) = rot f (m - i) m (m + j) := by
  funext k
  unfold rot swapR
  by_cases c1 : m - i ≤ k ∧ k < m - i + j
  · rw [if_neg (by omega), if_neg (by omega), if_pos (by omega), if_pos (by omega)]; congr 1; omega
  · by_cases c2 : m - (i - j) ≤ k ∧ k < m - (i - j) + j
    · rw [if_pos (by omega), if_neg (by omega), if_pos (by omega), if_neg (by omega), if_pos (by omega)]; congr 1; omega
    · by_cases c3 : m - (i - j) + j ≤ k ∧ k < m + j
      · rw [if_neg (by omega), if_pos (by omega), if_neg (by omega), if_neg (by omega), if_neg (by omega), if_pos (by omega)]
      · rw [if_neg (by omega), if_neg (by omega), if_neg (by omega), if_neg (by omega), if_neg (by omega), if_neg (by omega)]
theorem rot_right (f : Nat → Nat) (m i j : Nat) (hi : i ≤ m) (h : i < j) (h0 : 0 < i) : rot (swapR f (m - i) (m + j - i) i) (m - i) m (m + (j - i)) = rot f (m - i) m (m + j) := by
  funext k
  unfold rot swapR
  by_cases c1 : m - i ≤ k ∧ k < m + j - 2 * i
  · by_cases c0 : m - i ≤ k + i ∧ k + i < m
    · omega
    · rw [if_pos (by omega), if_neg (by omega), if_neg (by omega), if_pos (by omega)]
  · by_cases c2 : m + j - 2 * i ≤ k ∧ k < m + j - i
    · rw [if_neg (by omega), if_pos (by omega), if_pos (by omega), if_pos (by omega)]; congr 1; omega
    · by_cases c3 : m + j - i ≤ k ∧ k < m + j
      · rw [if_neg (by omega), if_neg (by omega), if_neg (by omega), if_pos (by omega), if_neg (by omega), if_pos (by omega)]; congr 1; omega
      · rw [if_neg (by omega), if_neg (by omega), if_neg (by omega), if_neg (by omega), if_neg (by omega), if_neg (by omega)]
theorem rot_even (f : Nat → Nat) (m i : Nat) (hi : i ≤ m) (h0 : 0 < i) : swapR f (m - i) m i = rot f (m - i) m (m + i) := by
  funext k
  unfold rot swapR
  by_cases c1 : m - i ≤ k ∧ k < m - i + i
  · rw [if_pos c1, if_pos (by omega)]; congr 1; omega
  · rw [if_neg c1]
    by_cases c2 : m ≤ k ∧ k < m + i
    · rw [if_pos c2, if_neg (by omega), if_pos (by omega)]; congr 1; omega
    · rw [if_neg c2, if_neg (by omega), if_neg (by omega)]

theorem shuf_rot (f : Nat → Nat) {a m b : Nat} (h1 : a ≤ m) (h2 : m ≤ b) : Shuf a b f (rot f a m b) := by
  refine ⟨fun i hi => ?_, fun i hi1 hi2 => ?_, fun j hj1 hj2 => ?_⟩
  · unfold rot; rw [if_neg (by omega), if_neg (by omega)]
  · unfold rot
    by_cases c : a ≤ i ∧ i < a + (b - m)
    · exact ⟨i + (m - a), by omega, by omega, by rw [if_pos c]⟩
    · exact ⟨i - (b - m), by omega, by omega, by rw [if_neg c, if_pos (by omega)]⟩
  · unfold rot
    by_cases c : j < m
    · exact ⟨j + (b - m), by omega, by omega, by rw [if_neg (by omega), if_pos (by omega)]; congr 1; omega⟩
    · exact ⟨j - (m - a), by omega, by omega, by rw [if_pos (by omega)]; congr 1; omega⟩

/-! ### One element moved through its neighbours -/
theorem rot_up (f : Nat → Nat) (a k : Nat) (h : a ≤ k) : swap (rot f a (a + 1) (k + 1)) k (k + 1) = rot f a (a + 1) (k + 2) := by
  funext x
  unfold swap rot
  by_cases c1 : x = k
  · subst c1
    rw [if_pos rfl, if_neg (by omega), if_neg (by omega), if_pos (by omega)]; congr 1; omega
  · rw [if_neg c1]
    by_cases c2 : x = k + 1
    · subst c2
      rw [if_pos rfl, if_neg (by omega), if_pos (by omega), if_neg (by omega), if_pos (by omega)]; congr 1; omega
    · rw [if_neg c2]
      by_cases c3 : a ≤ x ∧ x < k
      · rw [if_pos (by omega), if_pos (by omega)]
      · rw [if_neg (by omega), if_neg (by omega), if_neg (by omega), if_neg (by omega)]
theorem rot_up0 (f : Nat → Nat) (a : Nat) : rot f a (a + 1) (a + 1) = f := by
  funext x; unfold rot
  rw [if_neg (by omega)]
  by_cases c : a + (a + 1 - (a + 1)) ≤ x ∧ x < a + 1
  · rw [if_pos c]; congr 1; omega
  · rw [if_neg c]
theorem rot_dn (f : Nat → Nat) (m k : Nat) (h : k + 1 ≤ m) : swap (rot f (k + 1) m (m + 1)) (k + 1) k = rot f k m (m + 1) := by
  funext x
  unfold swap rot
  by_cases c1 : x = k + 1
  · subst c1
    rw [if_pos rfl, if_neg (by omega), if_neg (by omega), if_neg (by omega), if_pos (by omega)]; congr 1; omega
  · rw [if_neg c1]
    by_cases c2 : x = k
    · subst c2
      rw [if_pos rfl, if_pos (by omega), if_pos (by omega)]; congr 1; omega
    · rw [if_neg c2]
      by_cases c3 : k + 2 ≤ x ∧ x < m + 1
      · rw [if_neg (by omega), if_pos (by omega), if_neg (by omega), if_pos (by omega)]
      · rw [if_neg (by omega), if_neg (by omega), if_neg (by omega), if_neg (by omega)]
theorem rot_dn0 (f : Nat → Nat) (m : Nat) : rot f m m (m + 1) = f := by
  funext x; unfold rot
  by_cases c : m ≤ x ∧ x < m + (m + 1 - m)
  · rw [if_pos c]; congr 1; omega
  · rw [if_neg c, if_neg (by omega)]

/-! ### The symmetric merge -/
/-- What is asked of two ranges that are to be merged: both sorted, the left one's places below the right one's. -/
structure Two (R : Nat → Int) (a m b : Nat) (f : Nat → Nat) : Prop where
  left : Sorted R a m f
  right : Sorted R m b f
  cross : ∀ p q, a ≤ p → p < m → m ≤ q → q < b → f p < f q

theorem Two.lt_iff {R : Nat → Int} {a m b p q : Nat} {f : Nat → Nat} (h : Two R a m b f) (p1 : a ≤ p) (p2 : p < m) (q1 : m ≤ q) (q2 : q < b) : (R (f p) < R (f q) → LT R (f q) (f p)) ∧ (¬ R (f p) < R (f q) → LT R (f p) (f q)) :=
  ⟨LT.of_less, fun c => LT.of_not c (h.cross p q p1 p2 q1 q2)⟩

/-- One element on the left: it goes behind all that are less. -/
theorem Two.one_left {R : Nat → Int} {a b i : Nat} {f : Nat → Nat} (h : Two R a (a + 1) b f) (hi1 : a + 1 ≤ i) (hi2 : i ≤ b) (lo : ∀ q, a + 1 ≤ q → q < i → R (f a) < R (f q)) (hi : ∀ q, i ≤ q → q < b → ¬ R (f a) < R (f q)) :
    Sorted R a b (rot f a (a + 1) i) := by
  intro p q h1 h2 h3
  have lt : ∀ x, a + 1 ≤ x → x < i → LT R (f x) (f a) := fun x x1 x2 => (h.lt_iff (Nat.le_refl _) (by omega) x1 (by omega)).1 (lo x x1 x2)
  have gt : ∀ x, i ≤ x → x < b → LT R (f a) (f x) := fun x x1 x2 => (h.lt_iff (Nat.le_refl _) (by omega) (by omega) x2).2 (hi x x1 x2)
  have e1 : ∀ x, a ≤ x → x + 1 < i → rot f a (a + 1) i x = f (x + 1) := fun x x1 x2 => by unfold rot; rw [if_pos (by omega)]; congr 1; omega
  have e2 : rot f a (a + 1) i (i - 1) = f a := by unfold rot; rw [if_neg (by omega), if_pos (by omega)]; congr 1; omega
  have e3 : ∀ x, i ≤ x → rot f a (a + 1) i x = f x := fun x x1 => by unfold rot; rw [if_neg (by omega), if_neg (by omega)]
  by_cases cp : p + 1 < i
  · rw [e1 p h1 cp]
    by_cases cq : q + 1 < i
    · rw [e1 q (by omega) cq]; exact h.right (p + 1) (q + 1) (by omega) (by omega) (by omega)
    · by_cases cq2 : q = i - 1
      · rw [cq2, e2]; exact lt (p + 1) (by omega) cp
      · rw [e3 q (by omega)]; exact h.right (p + 1) q (by omega) (by omega) h3
  · by_cases cp2 : p = i - 1
    · rw [cp2, e2, e3 q (by omega)]; exact gt q (by omega) h3
    · rw [e3 p (by omega), e3 q (by omega)]; exact h.right p q (by omega) h2 h3

/-- One element on the right: it goes ahead of all that are greater. -/
theorem Two.one_right {R : Nat → Int} {a m i : Nat} {f : Nat → Nat} (h : Two R a m (m + 1) f) (hi1 : a ≤ i) (hi2 : i ≤ m) (lo : ∀ p, a ≤ p → p < i → ¬ R (f p) < R (f m)) (hi : ∀ p, i ≤ p → p < m → R (f p) < R (f m)) :
    Sorted R a (m + 1) (rot f i m (m + 1)) := by
  intro p q h1 h2 h3
  have lt : ∀ x, a ≤ x → x < i → LT R (f x) (f m) := fun x x1 x2 => (h.lt_iff x1 (by omega) (Nat.le_refl _) (by omega)).2 (lo x x1 x2)
  have gt : ∀ x, i ≤ x → x < m → LT R (f m) (f x) := fun x x1 x2 => (h.lt_iff (by omega) x2 (Nat.le_refl _) (by omega)).1 (hi x x1 x2)
  have e1 : ∀ x, x < i → rot f i m (m + 1) x = f x := fun x x1 => by unfold rot; rw [if_neg (by omega), if_neg (by omega)]
  have e2 : rot f i m (m + 1) i = f m := by unfold rot; rw [if_pos (by omega)]; congr 1; omega
  have e3 : ∀ x, i < x → x < m + 1 → rot f i m (m + 1) x = f (x - 1) := fun x x1 x2 => by unfold rot; rw [if_neg (by omega), if_pos (by omega)]; congr 1; omega
  by_cases cp : p < i
  · rw [e1 p cp]
    by_cases cq : q < i
    · rw [e1 q cq]; exact h.left p q h1 h2 (by omega)
    · by_cases cq2 : q = i
      · rw [cq2, e2]; exact lt p h1 cp
      · rw [e3 q (by omega) h3]; exact h.left p (q - 1) h1 (by omega) (by omega)
  · by_cases cp2 : p = i
    · rw [cp2, e2, e3 q (by omega) h3]; exact gt (q - 1) (by omega) (by omega)
    · rw [e3 p (by omega) (by omega), e3 q (by omega) h3]; exact h.left (p - 1) (q - 1) (by omega) (by omega) (by omega)

/-- The cut of the symmetric merge: 'start' on the left, 'stop' on the right; what lies ahead of the middle is below what lies behind it. -/
structure Cut (R : Nat → Int) (a m b s e mid : Nat) (f : Nat → Nat) : Prop where
  hs1 : a ≤ s
  hs2 : s ≤ m
  he1 : m ≤ e
  he2 : e ≤ b
  sum : s + e = mid + m
  low : a < s → e < b → LT R (f (s - 1)) (f e)
  high : m < e → s < m → LT R (f (e - 1)) (f s)

theorem rot_vals (f : Nat → Nat) {s m e : Nat} (h1 : s ≤ m) (h2 : m ≤ e) {mid : Nat} (sum : s + e = mid + m) :
    (∀ x, x < s → rot f s m e x = f x) ∧ (∀ x, s ≤ x → x < mid → rot f s m e x = f (x + (m - s))) ∧ (∀ x, mid ≤ x → x < e → rot f s m e x = f (x - (e - m))) ∧ (∀ x, e ≤ x → rot f s m e x = f x) := by
  refine ⟨fun x hx => ?_, fun x x1 x2 => ?_, fun x x1 x2 => ?_, fun x x1 => ?_⟩
  · unfold rot; rw [if_neg (by omega), if_neg (by omega)]
  · unfold rot; rw [if_pos (by omega)]
  · unfold rot; rw [if_neg (by omega), if_pos (by omega)]
  · unfold rot; rw [if_neg (by omega), if_neg (by omega)]

theorem Cut.halves {R : Nat → Int} {a m b s e mid : Nat} {f : Nat → Nat} (h : Two R a m b f) (c : Cut R a m b s e mid f) :
    Two R a s mid (rot f s m e) ∧ Two R mid e b (rot f s m e) ∧ ∀ p q, a ≤ p → p < mid → mid ≤ q → q < b → LT R (rot f s m e p) (rot f s m e q) := by
  have hs1 := c.hs1; have hs2 := c.hs2; have he1 := c.he1; have he2 := c.he2; have sum := c.sum
  obtain ⟨v1, v2, v3, v4⟩ := rot_vals f hs2 he1 sum
  -- every element kept ahead is below every element put behind
  have L1R2 : ∀ x y, a ≤ x → x < s → e ≤ y → y < b → LT R (f x) (f y) := fun x y x1 x2 y1 y2 => by
    have base := c.low (by omega) (by omega)
    have l : x = s - 1 ∨ LT R (f x) (f (s - 1)) := by
      by_cases hx : x = s - 1
      · exact Or.inl hx
      · exact Or.inr (h.left x (s - 1) x1 (by omega) (by omega))
    have r : y = e ∨ LT R (f e) (f y) := by
      by_cases hy : y = e
      · exact Or.inl hy
      · exact Or.inr (h.right e y he1 (by omega) y2)
    rcases l with rfl | l <;> rcases r with rfl | r
    · exact base
    · exact base.trans r
    · exact l.trans base
    · exact (l.trans base).trans r
  have R1L2 : ∀ x y, m ≤ x → x < e → s ≤ y → y < m → LT R (f x) (f y) := fun x y x1 x2 y1 y2 => by
    have base := c.high (by omega) (by omega)
    have l : x = e - 1 ∨ LT R (f x) (f (e - 1)) := by
      by_cases hx : x = e - 1
      · exact Or.inl hx
      · exact Or.inr (h.right x (e - 1) x1 (by omega) (by omega))
    have r : y = s ∨ LT R (f s) (f y) := by
      by_cases hy : y = s
      · exact Or.inl hy
      · exact Or.inr (h.left s y hs1 (by omega) y2)
    rcases l with rfl | l <;> rcases r with rfl | r
    · exact base
    · exact base.trans r
    · exact l.trans base
    · exact (l.trans base).trans r
  refine ⟨⟨?_, ?_, ?_⟩, ⟨?_, ?_, ?_⟩, ?_⟩
  · intro p q h1 h2 h3
    rw [v1 p (by omega), v1 q h3]; exact h.left p q h1 h2 (by omega)
  · intro p q h1 h2 h3
    rw [v2 p h1 (by omega), v2 q (by omega) h3]; exact h.right _ _ (by omega) (by omega) (by omega)
  · intro p q h1 h2 h3 h4
    rw [v1 p h2, v2 q h3 h4]; exact h.cross _ _ h1 (by omega) (by omega) (by omega)
  · intro p q h1 h2 h3
    rw [v3 p h1 (by omega), v3 q (by omega) h3]; exact h.left _ _ (by omega) (by omega) (by omega)
  · intro p q h1 h2 h3
    rw [v4 p h1, v4 q (by omega)]; exact h.right p q (by omega) h2 h3
  · intro p q h1 h2 h3 h4
    rw [v3 p h1 h2, v4 q h3]; exact h.cross _ _ (by omega) (by omega) (by omega) h4
  · intro p q h1 h2 h3 h4
    by_cases cp : p < s
    · rw [v1 p cp]
      by_cases cq : q < e
      · rw [v3 q h3 cq]; exact h.left _ _ h1 (by omega) (by omega)
      · rw [v4 q (by omega)]; exact L1R2 p q h1 cp (by omega) h4
    · rw [v2 p (by omega) h2]
      by_cases cq : q < e
      · rw [v3 q h3 cq]; exact R1L2 _ _ (by omega) (by omega) (by omega) (by omega)
      · rw [v4 q (by omega)]; exact h.right _ _ (by omega) (by omega) h4

/-- Two halves, each sorted, the first below the second. -/
theorem sorted_join {R : Nat → Int} {a mid b : Nat} {f : Nat → Nat} (h1 : Sorted R a mid f) (h2 : Sorted R mid b f) (h : ∀ p q, a ≤ p → p < mid → mid ≤ q → q < b → LT R (f p) (f q)) : Sorted R a b f := by
  intro p q p1 p2 p3
  by_cases c : q < mid
  · exact h1 p q p1 p2 c
  · by_cases c2 : mid ≤ p
    · exact h2 p q c2 p2 p3
    · exact h p q p1 (by omega) (by omega) p3
/-- That the first half is below the second does not turn when each is shuffled in itself. -/
theorem apart_shuf {R : Nat → Int} {a mid b : Nat} {f f' : Nat → Nat} (h : ∀ p q, a ≤ p → p < mid → mid ≤ q → q < b → LT R (f p) (f q)) {x y : Nat} (hx : (x = a ∧ y = mid) ∨ (x = mid ∧ y = b)) (s : Shuf x y f f') (ham : a ≤ mid) (hmb : mid ≤ b) :
    ∀ p q, a ≤ p → p < mid → mid ≤ q → q < b → LT R (f' p) (f' q) := by
  intro p q p1 p2 q1 q2
  rcases hx with ⟨rfl, rfl⟩ | ⟨rfl, rfl⟩
  · obtain ⟨j, j1, j2, e⟩ := s.into p p1 p2
    rw [e, s.out q (by omega)]; exact h j q j1 j2 q1 q2
  · obtain ⟨j, j1, j2, e⟩ := s.into q q1 q2
    rw [e, s.out p (by omega)]; exact h p j p1 p2 j1 j2

end Go.Proofs.YtfdahdloihgjeacDoor.Stable
