/-
  Ours: the statement's book as it lies: five rows, and the answers that they name.
-/
import Derived.Test.YtcnhcdlbippjoaaNwSnt
import Derived.Test.YtcnhcdlbippjoaaNwSam
namespace Go.Proofs.Ytcnhcdlbippjoaa
open Go.RowKit NwM
theorem RowV.at {e : TypeId} {base : Nat} {w : World} {v : Value} {vs : List Value} (h : RowV e base w v vs) {i : Nat} {u : Value} (hi : vs[i]? = some u) : ∃ g cap, v = .slice (some ⟨g, 0, none⟩) vs.length cap ∧ vs.length ≤ cap ∧ g < w.heap.size ∧ w.cell? ⟨g, i, none⟩ = some u := by
  have hl := (List.getElem?_eq_some_iff.1 hi)
  obtain ⟨hl, he⟩ := hl
  obtain ⟨g, cap, e1, h1, h2, _⟩ := RowV.own h (by omega)
  refine ⟨g, cap, e1, h1, h.block_lt (by rw [e1]; rfl), ?_⟩
  rw [h2 i hl, he]
/-- The type of the elements of the book's rows. -/
def te : Nat → TypeId
  | 0 => 62
  | 1 => 62
  | 2 => 30
  | 3 => 31
  | _ => 5
def upd {α : Type} (f : Nat → α) (k : Nat) (x : α) : Nat → α := fun j => if j = k then x else f j
theorem upd_same {α : Type} (f : Nat → α) (k : Nat) (x : α) : upd f k x k = x := if_pos rfl
theorem upd_ne {α : Type} (f : Nat → α) {k j : Nat} (x : α) (h : j ≠ k) : upd f k x j = f j := if_neg h
/-- The book's five rows. -/
structure BkR (Q : Nat) (W : Nat → Prop) (v : Nat → Value) (V : Nat → List Value) (w : World) : Prop where
  blk : Blk Q 43 [v 0, v 1, v 2, v 3, v 4] w
  row : ∀ k, k < 5 → RowV (te k) 0 w (v k) (V k)
  wq : W Q
  wv : ∀ k, k < 5 → ∀ g, (v k).ownBlock = some g → W g ∧ g ≠ Q
  nd : ∀ j k, j < 5 → k < 5 → j ≠ k → ∀ g, (v j).ownBlock = some g → (v k).ownBlock ≠ some g
  lt : ∀ g, W g → g < w.heap.size
theorem BkR.kp {Q : Nat} {W N : Nat → Prop} {v : Nat → Value} {V : Nat → List Value} {w w' : World} (h : BkR Q W v V w) (k : Kp N w w') (hn : ∀ g, W g → ¬ N g) : BkR Q W v V w' :=
  ⟨h.blk.kp k (hn _ h.wq), fun j hj => (h.row j hj).kp k (fun g e => hn g (h.wv j hj g e).1), h.wq, h.wv, h.nd, fun g hg => Nat.lt_of_lt_of_le (h.lt g hg) k.size⟩
theorem BkR.below {Q : Nat} {W : Nat → Prop} {v : Nat → Value} {V : Nat → List Value} {w w' : World} (h : BkR Q W v V w) (b : Below w.heap.size w w') : BkR Q W v V w' := h.kp (Kp.of_below b (fun _ => False)) (fun _ _ z => z)
theorem BkR.cell {Q : Nat} {W : Nat → Prop} {v : Nat → Value} {V : Nat → List Value} {w : World} (h : BkR Q W v V w) {k : Nat} (hk : k < 5) : w.cell? ⟨Q, k, none⟩ = some (v k) := by
  match k, hk with
  | 0, _ => exact h.blk.cell 0 _ rfl
  | 1, _ => exact h.blk.cell 1 _ rfl
  | 2, _ => exact h.blk.cell 2 _ rfl
  | 3, _ => exact h.blk.cell 3 _ rfl
  | 4, _ => exact h.blk.cell 4 _ rfl
/-- One more in a row, and the row laid back. -/
theorem BkR.push {Q : Nat} {W : Nat → Prop} {v : Nat → Value} {V : Nat → List Value} {w w2 : World} (h : BkR Q W v V w) {k : Nat} (hk : k < 5) {v' x : Value} (r : RowV (te k) 0 w2 v' (V k ++ [x])) (g : w.grownBy w2 (v k).ownBlock) (hat : ∀ q, v'.ownBlock = some q → (v k).ownBlock = some q ∨ w.heap.size ≤ q) :
    BkR Q (fun q => W q ∨ v'.ownBlock = some q) (upd v k v') (upd V k (V k ++ [x])) (w2.setCell ⟨Q, k, none⟩ v') ∧ Kp W w (w2.setCell ⟨Q, k, none⟩ v') ∧ w2.cell? ⟨Q, k, none⟩ = some (v k) ∧ w2.frozen? ⟨Q, k, none⟩ = false := by
  have nQ : (v k).ownBlock ≠ some Q := fun e => (h.wv k hk Q e).2 rfl
  have B2 : Blk Q 43 [v 0, v 1, v 2, v 3, v 4] w2 := h.blk.grown g nQ
  have hQ : Q < w.heap.size := h.lt Q h.wq
  have sg := setCell_grown w2 Q k v'
  have k2 : Kp (fun q => (v k).ownBlock = some q) w w2 := Kp.of_grown g
  have k3 : Kp (fun q => q = Q) w2 (w2.setCell ⟨Q, k, none⟩ v') := (Kp.of_grown sg).mono (fun q _ e => by injection e with e; exact e.symm)
  have vQ : ∀ q, v'.ownBlock = some q → q ≠ Q := fun q e z => by
    rcases hat q e with y | y
    · exact nQ (by rw [y, z])
    · omega
  have hc : w2.cell? ⟨Q, k, none⟩ = some (v k) := cell_kp k2 nQ (h.cell hk)
  refine ⟨⟨?_, fun j hj => ?_, .inl h.wq, fun j hj q e => ?_, fun i j hi hj hne q e => ?_, fun q hq => ?_⟩, ?_, hc, B2.fz k⟩
  · have := B2.set (i := k) v'
    match k, hk with
    | 0, _ => exact this
    | 1, _ => exact this
    | 2, _ => exact this
    | 3, _ => exact this
    | 4, _ => exact this
  · by_cases e : j = k
    · subst e
      rw [upd_same, upd_same]
      exact r.kp k3 (fun q e z => vQ q e z)
    · rw [upd_ne _ _ e, upd_ne _ _ e]
      exact ((h.row j hj).kp k2 (fun q e1 e2 => h.nd j k hj hk e q e1 e2)).kp k3 (fun q e1 z => (h.wv j hj q e1).2 z)
  · by_cases z : j = k
    · subst z
      rw [upd_same] at e
      exact ⟨.inr e, vQ q e⟩
    · rw [upd_ne _ _ z] at e
      exact ⟨.inl (h.wv j hj q e).1, (h.wv j hj q e).2⟩
  · have key : ∀ j, j < 5 → j ≠ k → ∀ q, v'.ownBlock = some q → (v j).ownBlock ≠ some q := fun j hj hjk q e1 e2 => by
      rcases hat q e1 with y | y
      · exact h.nd k j hk hj (fun z => hjk z.symm) q y e2
      · have := h.lt q (h.wv j hj q e2).1; omega
    by_cases zi : i = k
    · subst zi
      rw [upd_same] at e
      rw [upd_ne _ _ (fun z => hne z.symm)]
      exact key j hj (fun z => hne z.symm) q e
    · rw [upd_ne _ _ zi] at e
      by_cases zj : j = k
      · subst zj
        rw [upd_same]
        exact fun z => key i hi zi q z e
      · rw [upd_ne _ _ zj]
        exact h.nd i j hi hj hne q e
  · rcases hq with hq | hq
    · exact Nat.lt_of_lt_of_le (h.lt q hq) (Nat.le_trans k2.size k3.size)
    · exact Nat.lt_of_lt_of_le (r.block_lt hq) k3.size
  · refine (k2.mono (fun q _ e => (h.wv k hk q e).1)).trans k3 (fun q _ e => by rw [e]; exact h.wq)
/-- A slice all of whose cells are m. -/
def KV (w : World) (m : Value) (v : Value) : Prop := ∃ a n c, v = .slice a n c ∧ n ≤ 9223372036854775807 ∧ Rd w (.slice a n c) (List.replicate n m)
theorem RowV.le {e : TypeId} {base : Nat} {w : World} {v : Value} {vs : List Value} (h : RowV e base w v vs) : vs.length ≤ 9223372036854775807 := by
  rcases h.2 with ⟨_, h0⟩ | ⟨g, cap, cur, hv, hb, hg, hn, hm, hs, ht⟩
  · omega
  · unfold maxLen at hm; omega
theorem KV.kp {w w' : World} {m v : Value} {N : Nat → Prop} (h : KV w m v) (k : Kp N w w') (hn : ∀ g, v.ownBlock = some g → ¬ N g) : KV w' m v := by
  obtain ⟨a, n, c, rfl, hl, h⟩ := h
  exact ⟨a, n, c, rfl, hl, h.kp k hn⟩
def zA (i : Nat) : Ac := ⟨-7 - (i : Int), 0, none, 0, 0, []⟩
/-- The answers that the book holds: each as its holder left it; M: where they lie. -/
structure BkC (M : Nat → Prop) (V : Nat → List Value) (w : World) : Prop where
  la : (V 1).length = (V 0).length
  lb : (V 4).length = (V 3).length
  ka : ∀ (i : Nat) v, (V 0)[i]? = some v → KV w (.int .i64 (-7 - (i : Int))) v ∧ ∀ g, v.ownBlock = some g → M g
  kl : ∀ (i : Nat) v, (V 1)[i]? = some v → KV w (.int .i64 (-7 - (i : Int))) v ∧ ∀ g, v.ownBlock = some g → M g
  ks : ∀ (i : Nat) v, (V 2)[i]? = some v → (∃ n, RowA 0 w v (List.replicate n (zA i))) ∧ ∀ g, v.ownBlock = some g → M g
  kb : ∀ (i : Nat) v m, (V 3)[i]? = some v → (V 4)[i]? = some m → KV w m v ∧ (∃ x : Nat, m = bv x) ∧ ∀ g, v.ownBlock = some g → M g
  lt : ∀ g, M g → g < w.heap.size
theorem BkC.kp {M N : Nat → Prop} {V : Nat → List Value} {w w' : World} (h : BkC M V w) (k : Kp N w w') (hn : ∀ g, M g → ¬ N g) : BkC M V w' :=
  ⟨h.la, h.lb, fun i v hv => ⟨(h.ka i v hv).1.kp k (fun g e => hn g ((h.ka i v hv).2 g e)), (h.ka i v hv).2⟩, fun i v hv => ⟨(h.kl i v hv).1.kp k (fun g e => hn g ((h.kl i v hv).2 g e)), (h.kl i v hv).2⟩,
    fun i v hv => ⟨(h.ks i v hv).1.imp (fun _ r => own_kp r k (fun g e => hn g ((h.ks i v hv).2 g e))), (h.ks i v hv).2⟩,
    fun i v m hv hm => ⟨(h.kb i v m hv hm).1.kp k (fun g e => hn g ((h.kb i v m hv hm).2.2 g e)), (h.kb i v m hv hm).2⟩, fun g hg => Nat.lt_of_lt_of_le (h.lt g hg) k.size⟩
theorem BkC.below {M : Nat → Prop} {V : Nat → List Value} {w w' : World} (h : BkC M V w) (b : Below w.heap.size w w') : BkC M V w' := h.kp (Kp.of_below b (fun _ => False)) (fun _ _ z => z)
/-- The book: n answers at most in each row. -/
structure BkA (Q n : Nat) (W M : Nat → Prop) (w : World) : Prop where
  ex : ∃ v V, BkR Q W v V w ∧ BkC M V w ∧ ∀ k, k < 5 → (V k).length ≤ n
  mw : ∀ g, M g → ¬ W g
theorem BkA.kp {Q n : Nat} {W M N : Nat → Prop} {w w' : World} (h : BkA Q n W M w) (k : Kp N w w') (hn : ∀ g, W g ∨ M g → ¬ N g) : BkA Q n W M w' := by
  obtain ⟨v, V, h1, h2, h3⟩ := h.ex
  exact ⟨⟨v, V, h1.kp k (fun g q => hn g (.inl q)), h2.kp k (fun g q => hn g (.inr q)), h3⟩, h.mw⟩
theorem BkA.lt {Q n : Nat} {W M : Nat → Prop} {w : World} (h : BkA Q n W M w) : ∀ g, W g ∨ M g → g < w.heap.size := fun g hg => by
  obtain ⟨v, V, h1, h2, h3⟩ := h.ex
  rcases hg with hg | hg
  · exact h1.lt g hg
  · exact h2.lt g hg
/-- What a call leaves of the book; X: the blocks of the answer that it is handed. -/
structure BkP (Q n : Nat) (W M X : Nat → Prop) (w w' : World) : Prop where
  ex : ∃ W' M', BkA Q n W' M' w' ∧ (∀ g, W' g → W g ∨ w.heap.size ≤ g) ∧ ∀ g, M' g → M g ∨ X g ∨ w.heap.size ≤ g
  k : Kp (fun g => W g ∨ X g) w w'
end Go.Proofs.Ytcnhcdlbippjoaa
