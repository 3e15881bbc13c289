/-
  Ours: blocks that are sorted in themselves, merged two by two. No Go in sight.
-/
import Derived.Test.YtfdahdloihgjeacDoorStable2
namespace Go.Proofs.YtfdahdloihgjeacDoor.Stable

/-- The block from a on, len places or up to n: its places are its own, and in order. -/
structure Blk (R : Nat → Int) (n a len : Nat) (f : Nat → Nat) : Prop where
  own : ∀ p, a ≤ p → p < a + len → p < n → a ≤ f p ∧ f p < a + len
  ord : ∀ i j, a ≤ i → i < j → j < a + len → j < n → LT R (f i) (f j)

theorem Blk.congr {R : Nat → Int} {n a len : Nat} {f f' : Nat → Nat} (h : Blk R n a len f) (e : ∀ i, a ≤ i → i < a + len → f' i = f i) : Blk R n a len f' :=
  ⟨fun p h1 h2 h3 => by rw [e p h1 h2]; exact h.own p h1 h2 h3, fun i j h1 h2 h3 h4 => by rw [e i h1 (by omega), e j (by omega) h3]; exact h.ord i j h1 h2 h3 h4⟩

/-- A sorted shuffle of a block of places at rest. -/
theorem Blk.sorted {R : Nat → Int} {n a b len : Nat} {f f' : Nat → Nat} (s : Shuf a b f f') (id : ∀ i, a ≤ i → i < b → f i = i) (so : Sorted R a b f') (hb : b = a + len ∨ (b = n ∧ n ≤ a + len)) : Blk R n a len f' := by
  refine ⟨fun p h1 h2 h3 => ?_, fun i j h1 h2 h3 h4 => so i j h1 h2 (by omega)⟩
  obtain ⟨j, j1, j2, e⟩ := s.into p h1 (by omega)
  rw [e, id j j1 j2]; omega

/-- Two neighbours are ready to be merged. -/
theorem Blk.two {R : Nat → Int} {n a bs b : Nat} {f : Nat → Nat} (h1 : Blk R n a bs f) (h2 : Blk R n (a + bs) bs f) (hm : a + bs ≤ n) (hb : b ≤ a + 2 * bs) (hbn : b ≤ n) : Two R a (a + bs) b f :=
  ⟨fun i j i1 i2 i3 => h1.ord i j i1 i2 i3 (by omega),
   fun i j i1 i2 i3 => h2.ord i j i1 i2 (by omega) (by omega),
   fun p q p1 p2 q1 q2 => by
      have a1 := h1.own p p1 p2 (by omega)
      have a2 := h2.own q q1 (by omega) (by omega)
      omega⟩

/-- What the merge leaves is one block of twice the length. -/
theorem Blk.merged {R : Nat → Int} {n a bs b : Nat} {f f' : Nat → Nat} (h1 : Blk R n a bs f) (h2 : Blk R n (a + bs) bs f) (hbn : b ≤ n) (hb : b = a + 2 * bs ∨ (b = n ∧ n ≤ a + 2 * bs)) (s : Shuf a b f f') (so : Sorted R a b f') : Blk R n a (2 * bs) f' := by
  refine ⟨fun p p1 p2 p3 => ?_, fun i j i1 i2 i3 i4 => so i j i1 i2 (by omega)⟩
  obtain ⟨j, j1, j2, e⟩ := s.into p p1 (by omega)
  rw [e]
  by_cases c : j < a + bs
  · have := h1.own j j1 c (by omega); omega
  · have := h2.own j (by omega) (by omega) (by omega); omega
/-- A block without a neighbour. -/
theorem Blk.alone {R : Nat → Int} {n a bs : Nat} {f : Nat → Nat} (h : Blk R n a bs f) (hn : n ≤ a + bs) : Blk R n a (2 * bs) f :=
  ⟨fun p p1 _ p3 => by have := h.own p p1 (by omega) p3; omega, fun i j i1 i2 _ i4 => h.ord i j i1 i2 (by omega) i4⟩

/-- All blocks of a length, from the k-th on. -/
def From (R : Nat → Int) (n bs k : Nat) (f : Nat → Nat) : Prop := ∀ c, k ≤ c → c * bs < n → Blk R n (c * bs) bs f
/-- All blocks of a length, below the k-th. -/
def Till (R : Nat → Int) (n bs k : Nat) (f : Nat → Nat) : Prop := ∀ c, c < k → Blk R n (c * bs) bs f

theorem mul_step (c bs : Nat) : (c + 1) * bs = c * bs + bs := by rw [Nat.add_mul, Nat.one_mul]
theorem mul_le {c k : Nat} (bs : Nat) (h : c < k) : c * bs + bs ≤ k * bs := by rw [← mul_step]; exact Nat.mul_le_mul_right _ h
theorem Till.step {R : Nat → Int} {n bs k : Nat} {f f' : Nat → Nat} (h : Till R n bs k f) (out : ∀ i, i < k * bs → f' i = f i) (hk : Blk R n (k * bs) bs f') : Till R n bs (k + 1) f' := fun c hc => by
  by_cases e : c = k
  · rw [e]; exact hk
  · have := mul_le bs (show c < k by omega)
    exact (h c (by omega)).congr fun i h1 h2 => out i (by omega)
theorem From.step {R : Nat → Int} {n bs k : Nat} {f f' : Nat → Nat} (h : From R n bs k f) (j : Nat) (hj : k ≤ j) (out : ∀ i, j * bs ≤ i → f' i = f i) : From R n bs j f' := fun c hc hn => by
  have l : j * bs ≤ c * bs := Nat.mul_le_mul_right _ hc
  exact (h c (by omega) hn).congr fun i h1 _ => out i (by omega)

end Go.Proofs.YtfdahdloihgjeacDoor.Stable
