/-
  Ours: append to a row of the call's own, beside another such row; the pick of the greatest rest.
-/
import Derived.Test.YtfdahdloihgjeacDoorSharesMath
import Derived.Test.YtfdahdloihgjeacDoorSplitGo2
import Derived.ArgAppend
import Derived.OwnWalk
namespace Go.Proofs.YtfdahdloihgjeacDoor
open Go.RowKit Stable Spl

/-- Two rows in blocks of their own. -/
def Apart (v v2 : Value) : Prop := ∀ g, v.ownBlock = some g → v2.ownBlock ≠ some g
theorem Apart.symm {v v2 : Value} (h : Apart v v2) : Apart v2 v := fun g h1 h2 => h g h2 h1

theorem Row.block_lt {e : TypeId} {base : Nat} {w : World} {v : Value} {xs : List Int} (h : Row e base w v xs) {g : Nat} (hg : v.ownBlock = some g) : g < w.heap.size := (World.ownsRow.lt h g hg).2

theorem wpList_push2 {P : Program} {wr : World} {ops : Array Oper} {rest : List Oper} {o : Oper} {a : Act} {Q : Exit → Act → World → Prop} (hgd : o.guard = none) (s x : Operand) (t : TypeId)
    (ho : o.op = .call { callee := .builtin .append, args := #[s, x], argTypes := #[t, t] })
    (e : TypeId) (i : TypeInfo) (ht : P.underlying t = some (.slice e)) (hi : P.info? e = some i) (hz : i.zero = some (.int .i64 0)) (hsize : i.size = 1) (hby : i.bytes = 8)
    (base B : Nat) (w : World) (v v2 : Value) (xs ys : List Int) (y : Int) (hs : a.eval s = v) (hown : Row e base wr v xs) (hown2 : Row e base wr v2 ys) (ap : Apart v v2) (hnx : Below B w wr) (hB : B ≤ base) (hsz : base ≤ wr.heap.size)
    (hx : a.eval x = .slice (some ⟨wr.heap.size, 0, none⟩) 1 1) (hl : xs.length < 1099511627776)
    (h : ∀ v' w', Row e base w' v' (xs ++ [y]) → Row e base w' v2 ys → Apart v' v2 → Below B w w' → base ≤ w'.heap.size → wpList P ops Q rest (a.put o.dst v') w') :
    wpList P ops Q (o :: rest) a (wr.alloc (.cells #[.int .i64 y] e)) := by
  have own := World.ownsRow.alloc hown (.cells #[.int .i64 y] e)
  have own2 := World.ownsRow.alloc hown2 (.cells #[.int .i64 y] e)
  have nc : ∀ j u, [Value.int .i64 y][j]? = some u → (wr.alloc (.cells #[.int .i64 y] e)).cell? ((⟨wr.heap.size, 0, none⟩ : Addr).add j) = some u := by
    intro j u hj
    match j, hj with
    | 0, hj => simp at hj; subst hj; simp [Addr.add]
  have n1 : ∀ u ∈ [Value.int .i64 y], u.oneCell' = true := by intro u hu; simp at hu; subst hu; rfl
  have lm : (xs.map (Value.int .i64)).length = xs.length * 1 := by simp
  have fin : ∀ v' w', w'.ownsRow base e 1 v' (xs.length + 1) (xs.map (Value.int .i64) ++ [.int .i64 y]) → (wr.alloc (.cells #[.int .i64 y] e)).grownBy w' v.ownBlock → Apart v' v2 → wpList P ops Q rest (a.put o.dst v') w' := by
    intro v' w' r1 gr ap'
    obtain ⟨p1, p2, p3⟩ := Row.push hown hnx hB hsz r1 gr
    refine h v' w' p1 ?_ ap' p2 p3
    refine own2.kept gr ?_
    cases hv : v2.ownBlock with
    | none => exact .inl rfl
    | some g2 => exact .inr fun e => ap g2 (e.symm.trans rfl) hv
  have fresh : ∀ v' w', w'.ownsRow (wr.alloc (.cells #[.int .i64 y] e)).heap.size e 1 v' (xs.length + 1) (xs.map (Value.int .i64) ++ [.int .i64 y]) → (wr.alloc (.cells #[.int .i64 y] e)).grownBy w' none → wpList P ops Q rest (a.put o.dst v') w' := by
    intro v' w' r1 gr
    have r1' : Row e (wr.alloc (.cells #[.int .i64 y] e)).heap.size w' v' (xs ++ [y]) := by simpa [Row] using r1
    have r2 := r1'.mono (base' := base) (by simp; omega)
    have e1 : w'.ownsRow base e 1 v' (xs.length + 1) (xs.map (Value.int .i64) ++ [.int .i64 y]) := by simpa [Row] using r2
    refine fin v' w' e1 ⟨gr.os, gr.tape, gr.output, gr.size, fun k hk _ => gr.block k hk (by simp)⟩ fun g h1 h2 => ?_
    have a1 := (World.ownsRow.lt r1 g h1).1
    have a2 := hown2.block_lt h2
    simp at a1
    omega
  rcases own.2 with ⟨rfl, h0⟩ | ⟨g, cap, cur, rfl, hb, hg, hn, hm, hcs, htk⟩
  · have x0 : xs = [] := List.eq_nil_of_length_eq_zero h0
    subst x0
    exact wpList_append_grows _ hgd s x t ho e i (.int .i64 0) 1 8 ht hi hz hsize hby rfl (by decide) none 0 0 [] hs (fun _ => ⟨rfl, rfl⟩) rfl (fun b hb => by cases hb) ⟨wr.heap.size, 0, none⟩ 1 1 [.int .i64 y] hx rfl nc n1 (by decide) (by decide) (by decide) fresh
  · by_cases hr : xs.length + 1 ≤ cap
    · refine wpList_append_fits _ hgd s x t ho base e i 1 ht hi hsize g xs.length cap (xs.map (Value.int .i64)) hs own ⟨wr.heap.size, 0, none⟩ 1 1 [.int .i64 y] hx rfl nc n1 hr fun w' r1 gr => ?_
      exact fin _ w' r1 gr (fun g' h1 => ap g' h1)
    · refine wpList_append_grows _ hgd s x t ho e i (.int .i64 0) 1 8 ht hi hz hsize hby rfl (by decide) (some ⟨g, 0, none⟩) xs.length cap (xs.map (Value.int .i64)) hs (fun h => by cases h) lm (fun b hb => ?_) ⟨wr.heap.size, 0, none⟩ 1 1 [.int .i64 y] hx rfl nc n1 (by omega) (by unfold maxLen; omega) (by omega) fresh
      cases hb
      exact fun j u hj => World.ownsRow.cells own rfl j u hj

/-- The rests behind k picks. -/
def rsts (r : Nat → Int) (f : Nat → Nat) (k : Nat) : Nat → Int := fun i => if ∃ j, j < k ∧ f j = i then -1 else r i
theorem rsts_zero (r : Nat → Int) (f : Nat → Nat) : rsts r f 0 = r := by
  funext i; unfold rsts; rw [if_neg]; rintro ⟨j, hj, _⟩; omega
theorem rsts_step (r : Nat → Int) (f : Nat → Nat) (k : Nat) : (fun i => if i = f k then -1 else rsts r f k i) = rsts r f (k + 1) := by
  funext i
  unfold rsts
  by_cases e : i = f k
  · subst e; rw [if_pos rfl, if_pos ⟨k, by omega, rfl⟩]
  · rw [if_neg e]
    by_cases h : ∃ j, j < k ∧ f j = i
    · obtain ⟨j, h1, h2⟩ := h
      rw [if_pos ⟨j, h1, h2⟩, if_pos ⟨j, by omega, h2⟩]
    · rw [if_neg h, if_neg]
      rintro ⟨j, h1, h2⟩
      by_cases c : j = k
      · subst c; exact e h2.symm
      · exact h ⟨j, by omega, h2⟩

/-- The first greatest among the first i. -/
def Best (R : Nat → Int) (i b : Nat) : Prop := b < i ∧ ∀ j, j < i → R j ≤ R b ∧ (j < b → R j < R b)
theorem Best.one (R : Nat → Int) : Best R 1 0 := by
  refine ⟨by omega, fun j hj => ?_⟩
  obtain rfl : j = 0 := by omega
  exact ⟨Int.le_refl _, fun h => by omega⟩
theorem Best.keep {R : Nat → Int} {i b : Nat} (h : Best R i b) (hi : ¬ R b < R i) : Best R (i + 1) b := by
  refine ⟨by have := h.1; omega, fun j hj => ?_⟩
  by_cases e : j = i
  · subst e; exact ⟨by omega, fun hb => by have := h.1; omega⟩
  · exact h.2 j (by omega)
theorem Best.take {R : Nat → Int} {i b : Nat} (h : Best R i b) (hi : R b < R i) : Best R (i + 1) i := by
  refine ⟨by omega, fun j hj => ?_⟩
  by_cases e : j = i
  · subst e; exact ⟨Int.le_refl _, fun hb => by omega⟩
  · have := (h.2 j (by omega)).1
    exact ⟨by omega, fun _ => by omega⟩

theorem best_is {T W : Int} {ws : Nat → Int} {n : Nat} {f : Nat → Nat} (h : Sh T W ws n f) {k b : Nat} (hk : k < n) (hb : Best (rsts (fun i => T * ws i % W) f k) n b) : b = f k := by
  obtain ⟨c, hc, rfl⟩ := h.onto b hb.1
  have inj := h.inj
  have rk : rsts (fun i => T * ws i % W) f k (f k) = T * ws (f k) % W := by
    unfold rsts; rw [if_neg]; rintro ⟨j, hj, e⟩; exact inj j k hj hk e
  have nn : 0 ≤ T * ws (f k) % W := Int.emod_nonneg _ (by have := h.W0; omega)
  have m1 := hb.2 (f k) (h.lt k hk)
  rw [rk] at m1
  by_cases c1 : c < k
  · have : rsts (fun i => T * ws i % W) f k (f c) = -1 := by unfold rsts; rw [if_pos ⟨c, c1, rfl⟩]
    rw [this] at m1; omega
  · by_cases c2 : c = k
    · rw [c2]
    · have rc : rsts (fun i => T * ws i % W) f k (f c) = T * ws (f c) % W := by
        unfold rsts; rw [if_neg]; rintro ⟨j, hj, e⟩; exact inj j c (by omega) hc e
      rw [rc] at m1
      rcases h.sorted k c (Nat.zero_le _) (by omega) hc with l | ⟨l1, l2⟩
      · have l' : T * ws (f c) % W < T * ws (f k) % W := l
        omega
      · have l1' : T * ws (f k) % W = T * ws (f c) % W := l1
        have := m1.2 l2
        omega

end Go.Proofs.YtfdahdloihgjeacDoor
