/-
  Ours: places and rests as functions: what the stable sort's steps do to them. No Go in sight.
-/
namespace Go.Proofs.YtfdahdloihgjeacDoor.Stable

/-- The order of places: the greater rest first, of equal rests the lower place. -/
def LT (R : Nat → Int) (x y : Nat) : Prop := R y < R x ∨ (R x = R y ∧ x < y)

theorem LT.trans {R : Nat → Int} {x y z : Nat} (h : LT R x y) (k : LT R y z) : LT R x z := by unfold LT at *; omega
theorem LT.irrefl {R : Nat → Int} {x : Nat} (h : LT R x x) : False := by unfold LT at h; omega
theorem LT.of_less {R : Nat → Int} {x y : Nat} (h : R y < R x) : LT R x y := Or.inl h
theorem LT.of_not {R : Nat → Int} {x y : Nat} (h : ¬ R y < R x) (hxy : y < x) : LT R y x := by unfold LT; omega

def Sorted (R : Nat → Int) (a b : Nat) (f : Nat → Nat) : Prop := ∀ i j, a ≤ i → i < j → j < b → LT R (f i) (f j)

/-- f' is f with the places from a to b - 1 shuffled among themselves. -/
structure Shuf (a b : Nat) (f f' : Nat → Nat) : Prop where
  out : ∀ i, i < a ∨ b ≤ i → f' i = f i
  into : ∀ i, a ≤ i → i < b → ∃ j, a ≤ j ∧ j < b ∧ f' i = f j
  onto : ∀ j, a ≤ j → j < b → ∃ i, a ≤ i ∧ i < b ∧ f' i = f j

theorem Shuf.refl (a b : Nat) (f : Nat → Nat) : Shuf a b f f := ⟨fun _ _ => rfl, fun i h1 h2 => ⟨i, h1, h2, rfl⟩, fun j h1 h2 => ⟨j, h1, h2, rfl⟩⟩
theorem Shuf.trans {a b : Nat} {f g h : Nat → Nat} (p : Shuf a b f g) (q : Shuf a b g h) : Shuf a b f h := by
  refine ⟨fun i hi => (q.out i hi).trans (p.out i hi), fun i h1 h2 => ?_, fun j h1 h2 => ?_⟩
  · obtain ⟨j, a1, a2, e⟩ := q.into i h1 h2
    obtain ⟨k, b1, b2, e'⟩ := p.into j a1 a2
    exact ⟨k, b1, b2, e.trans e'⟩
  · obtain ⟨i, a1, a2, e⟩ := p.onto j h1 h2
    obtain ⟨k, b1, b2, e'⟩ := q.onto i a1 a2
    exact ⟨k, b1, b2, e'.trans e⟩
theorem Shuf.wide {a b a' b' : Nat} {f g : Nat → Nat} (p : Shuf a b f g) (ha : a' ≤ a) (hb : b ≤ b') : Shuf a' b' f g := by
  refine ⟨fun i hi => p.out i (by omega), fun i h1 h2 => ?_, fun j h1 h2 => ?_⟩
  · by_cases h : a ≤ i ∧ i < b
    · obtain ⟨j, a1, a2, e⟩ := p.into i h.1 h.2
      exact ⟨j, by omega, by omega, e⟩
    · exact ⟨i, h1, h2, p.out i (by omega)⟩
  · by_cases h : a ≤ j ∧ j < b
    · obtain ⟨i, a1, a2, e⟩ := p.onto j h.1 h.2
      exact ⟨i, by omega, by omega, e⟩
    · exact ⟨j, h1, h2, p.out j (by omega)⟩

def upd (f : Nat → Nat) (i x : Nat) : Nat → Nat := fun k => if k = i then x else f k
/-- The exchange of places i and j. -/
def swap (f : Nat → Nat) (i j : Nat) : Nat → Nat := fun k => if k = i then f j else if k = j then f i else f k
theorem swap_eq (f : Nat → Nat) (i j : Nat) : upd (upd f i (f j)) j (f i) = swap f i j := by
  funext k; unfold upd swap
  by_cases h1 : k = j
  · subst h1; by_cases h2 : k = i <;> simp [h2]
  · simp [h1]
theorem shuf_swap {a b i j : Nat} (f : Nat → Nat) (hi : a ≤ i ∧ i < b) (hj : a ≤ j ∧ j < b) : Shuf a b f (swap f i j) := by
  refine ⟨fun k hk => ?_, fun k h1 h2 => ?_, fun k h1 h2 => ?_⟩
  · unfold swap; rw [if_neg (by omega), if_neg (by omega)]
  · unfold swap
    by_cases e : k = i
    · exact ⟨j, hj.1, hj.2, by rw [if_pos e]⟩
    · by_cases e2 : k = j
      · exact ⟨i, hi.1, hi.2, by rw [if_neg e, if_pos e2]⟩
      · exact ⟨k, h1, h2, by rw [if_neg e, if_neg e2]⟩
  · unfold swap
    by_cases e : k = i
    · refine ⟨j, hj.1, hj.2, ?_⟩
      by_cases e2 : j = i
      · rw [if_pos e2, e, e2]
      · rw [if_neg e2, if_pos rfl, e]
    · by_cases e2 : k = j
      · exact ⟨i, hi.1, hi.2, by rw [if_pos rfl, e2]⟩
      · exact ⟨k, h1, h2, by rw [if_neg e, if_neg e2]⟩

/-! ### Insertion: one element, the greatest place of all, moves down -/
structure Ins (R : Nat → Int) (a i j : Nat) (f : Nat → Nat) : Prop where
  rest : ∀ p q, a ≤ p → p < q → q ≤ i → p ≠ j → q ≠ j → LT R (f p) (f q)
  above : ∀ q, j < q → q ≤ i → LT R (f j) (f q)
  key : ∀ p, a ≤ p → p ≤ i → p ≠ j → f p < f j

theorem Ins.start {R : Nat → Int} {a i : Nat} {f : Nat → Nat} (hs : Sorted R a i f) (hk : ∀ p, a ≤ p → p < i → f p < f i) : Ins R a i i f :=
  ⟨fun p q h1 h2 h3 _ h5 => hs p q h1 h2 (by omega), fun q h1 h2 => by omega, fun p h1 h2 h3 => hk p h1 (by omega)⟩
theorem Ins.down {R : Nat → Int} {a i j : Nat} {f : Nat → Nat} (h : Ins R a i (j + 1) f) (hj : a ≤ j) (hji : j + 1 ≤ i) (c : R (f j) < R (f (j + 1))) : Ins R a i j (swap f (j + 1) j) := by
  have s1 : swap f (j + 1) j j = f (j + 1) := by unfold swap; rw [if_neg (by omega), if_pos rfl]
  have s2 : swap f (j + 1) j (j + 1) = f j := by unfold swap; rw [if_pos rfl]
  have s3 : ∀ k, k ≠ j → k ≠ j + 1 → swap f (j + 1) j k = f k := fun k h1 h2 => by unfold swap; rw [if_neg h2, if_neg h1]
  refine ⟨fun p q h1 h2 h3 h4 h5 => ?_, fun q h1 h2 => ?_, fun p h1 h2 h3 => ?_⟩
  · by_cases ep : p = j + 1
    · subst ep
      rw [s2, s3 q (by omega) (by omega)]
      exact h.rest j q hj (by omega) h3 (by omega) (by omega)
    · rw [s3 p h4 ep]
      by_cases eq : q = j + 1
      · subst eq
        rw [s2]
        exact h.rest p j h1 (by omega) (by omega) ep (by omega)
      · rw [s3 q h5 eq]
        exact h.rest p q h1 h2 h3 ep eq
  · rw [s1]
    by_cases eq : q = j + 1
    · subst eq; rw [s2]; exact LT.of_less c
    · rw [s3 q (by omega) eq]; exact h.above q (by omega) h2
  · rw [s1]
    by_cases ep : p = j + 1
    · subst ep; rw [s2]; exact h.key j hj (by omega) (by omega)
    · rw [s3 p h3 ep]; exact h.key p h1 h2 ep
theorem Ins.stop {R : Nat → Int} {a i j : Nat} {f : Nat → Nat} (h : Ins R a i j f) (hj : a ≤ j) (hji : j ≤ i) (c : a < j → ¬ R (f (j - 1)) < R (f j)) : Sorted R a (i + 1) f := by
  have low : ∀ p, a ≤ p → p < j → LT R (f p) (f j) := by
    intro p h1 h2
    have e : LT R (f (j - 1)) (f j) := LT.of_not (c (by omega)) (h.key (j - 1) (by omega) (by omega) (by omega))
    by_cases ep : p = j - 1
    · rw [ep]; exact e
    · exact (h.rest p (j - 1) h1 (by omega) (by omega) (by omega) (by omega)).trans e
  intro p q h1 h2 h3
  by_cases ep : p = j
  · subst ep; exact h.above q h2 (by omega)
  · by_cases eq : q = j
    · subst eq; exact low p h1 h2
    · exact h.rest p q h1 h2 (by omega) ep eq

end Go.Proofs.YtfdahdloihgjeacDoor.Stable
