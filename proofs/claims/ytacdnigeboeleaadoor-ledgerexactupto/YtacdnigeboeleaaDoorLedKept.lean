/-
  Ours: the books that a walk has put down; loaded and put down in one step each.
-/
import Derived.Test.YtacdnigeboeleaaDoorLedSame
namespace Go.Proofs.YtacdnigeboeleaaDoor
open Go.RowKit LedM

/-- The books bs lie in blocks of the walk's own; what lay there before is as it was. -/
structure Kept (w : World) (bs : List (Nat × List Int)) (wr : World) : Prop where
  bb : Below w.heap.size w wr
  bk : ∀ p ∈ bs, w.heap.size ≤ p.1 ∧ p.2.length = 12 ∧ Blk p.1 25 (bkL p.2) wr
theorem Kept.call {w : World} {bs : List (Nat × List Int)} {wr w' : World} (h : Kept w bs wr) (hb : Below wr.heap.size wr w') : Kept w bs w' :=
  ⟨below_trans h.bb hb, fun p hp => ⟨(h.bk p hp).1, (h.bk p hp).2.1, (h.bk p hp).2.2.below hb⟩⟩
theorem Kept.alloc {w : World} {bs : List (Nat × List Int)} {wr : World} (h : Kept w bs wr) (o : Obj) : Kept w bs (wr.alloc o) := h.call (below_alloc wr o)
theorem Kept.drewN {w : World} {bs : List (Nat × List Int)} {wr : World} (h : Kept w bs wr) (n : Nat) : Kept w bs (wr.drewN n) := ⟨below_drewN h.bb n, fun p hp => h.bk p hp⟩
theorem Kept.lt {w : World} {bs : List (Nat × List Int)} {wr : World} (h : Kept w bs wr) : ∀ p ∈ bs, p.1 < wr.heap.size := fun p hp => (h.bk p hp).2.2.lt
theorem Kept.grown {w : World} {bs : List (Nat × List Int)} {wr w' : World} {row : Option Nat} (h : Kept w bs wr) (hg : wr.grownBy w' row) (hr : ∀ g, row = some g → w.heap.size ≤ g ∧ ∀ p ∈ bs, p.1 < g) : Kept w bs w' :=
  ⟨h.bb.grown hg h.bb.size (fun g e => (hr g e).1), fun p hp => ⟨(h.bk p hp).1, (h.bk p hp).2.1, (h.bk p hp).2.2.grown hg (fun e => by have := (hr _ e).2 p hp; omega)⟩⟩
theorem Kept.first (w : World) (l : List Int) (hl : l.length = 12) : Kept w [(w.heap.size, l)] (w.alloc (.cells (bkL l).toArray 25)) :=
  ⟨below_alloc w _, fun p hp => by simp at hp; subst hp; exact ⟨Nat.le_refl _, hl, Blk.new 25 (bkL l) w⟩⟩
theorem Kept.none (w : World) : Kept w [] w := ⟨Below.refl _ _, fun p hp => by cases hp⟩
theorem Kept.at {w : World} {bs : List (Nat × List Int)} {wr : World} (h : Kept w bs wr) (i : Nat) {G : Nat} {l : List Int} (hi : bs[i]? = some (G, l)) : l.length = 12 ∧ Blk G 25 (bkL l) wr := (h.bk _ (List.mem_of_getElem? hi)).2

theorem step_get {ops : Array Oper} {rest : List Oper} {op : Oper} {a : Act} {w wr : World} {Q : Exit → Act → World → Prop} {bs : List (Nat × List Int)} (hK : Kept w bs wr) (i : Nat) {G : Nat} {l : List Int} (hi : bs[i]? = some (G, l)) (hgd : op.guard = none) (x : Operand) (ho : op.op = .load 25 x)
    (hx : a.eval x = .pointer (some ⟨G, 0, none⟩)) (h : wpList Tryd.prog ops Q rest (a.put op.dst (.agg (bkL l).toArray)) wr) : wpList Tryd.prog ops Q (op :: rest) a wr :=
  step_load hgd 25 x ho G 0 hx (bkL l) _ (hK.at i hi).2.all Tryd.underlying25 rfl (infoBl (hK.at i hi).1) h
theorem step_getG {ops : Array Oper} {rest : List Oper} {op : Oper} {a : Act} {w wr : World} {Q : Exit → Act → World → Prop} {bs : List (Nat × List Int)} (hK : Kept w bs wr) (i : Nat) {G : Nat} {l : List Int} (hi : bs[i]? = some (G, l)) (hw : Region.wanted op (yielded ops a.tmps) = true) (x : Operand) (ho : op.op = .load 25 x)
    (hx : a.eval x = .pointer (some ⟨G, 0, none⟩)) (h : wpList Tryd.prog ops Q rest (a.put op.dst (.agg (bkL l).toArray)) wr) : wpList Tryd.prog ops Q (op :: rest) a wr :=
  step_loadG hw 25 x ho G 0 hx (bkL l) _ (hK.at i hi).2.all Tryd.underlying25 rfl (infoBl (hK.at i hi).1) h
theorem step_put {ops : Array Oper} {rest : List Oper} {op : Oper} {a : Act} {w wr : World} {Q : Exit → Act → World → Prop} {bs : List (Nat × List Int)} (hK : Kept w bs wr) (l : List Int) (hl : l.length = 12) (hgd : op.guard = none) (x y : Operand) (ho : op.op = .store 25 x y)
    (hx : a.eval x = .pointer (some ⟨wr.heap.size, 0, none⟩)) (hy : a.eval y = .agg (bkL l).toArray)
    (h : ∀ w', Kept w ((wr.heap.size, l) :: bs) w' → wr.heap.size < w'.heap.size → wpList Tryd.prog ops Q rest (a.put op.dst undef) w') : wpList Tryd.prog ops Q (op :: rest) a (wr.alloc (.cells (bkL zeroL).toArray 25)) := by
  refine step_store hgd 25 x y ho wr.heap.size 0 25 (bkL zeroL) (bkL l) hx hy (Blk.new 25 (bkL zeroL) wr) (by rw [bkL_len, hl]; exact Nat.le_refl _) (infoBl hl) (bkL_one _) ?_
  intro w' nb g
  rw [store_all (by rw [bkL_len, hl]; rfl)] at nb
  have hA := hK.alloc (.cells (bkL zeroL).toArray 25)
  have hG := hA.grown g (fun g' e => by cases e; exact ⟨hK.bb.size, hK.lt⟩)
  refine h w' ⟨hG.bb, fun p hp => ?_⟩ nb.lt
  rcases List.mem_cons.1 hp with rfl | hp
  · exact ⟨hK.bb.size, hl, nb⟩
  · exact hG.bk p hp

theorem step_putB {ops : Array Oper} {rest : List Oper} {op : Oper} {a : Act} {w wr : World} {Q : Exit → Act → World → Prop} {bs : List (Nat × List Int)} (hK : Kept w bs wr) (l : List Int) (hl : l.length = 12) (hgd : op.guard = none) (x y : Operand) (ho : op.op = .store 25 x y)
    (hx : a.eval x = .pointer (some ⟨wr.heap.size, 0, none⟩)) (hy : a.eval y = .agg (bkL l).toArray)
    (h : ∀ w', Kept w ((wr.heap.size, l) :: bs) w' → Below wr.heap.size wr w' → wpList Tryd.prog ops Q rest (a.put op.dst undef) w') : wpList Tryd.prog ops Q (op :: rest) a (wr.alloc (.cells (bkL zeroL).toArray 25)) := by
  refine step_store hgd 25 x y ho wr.heap.size 0 25 (bkL zeroL) (bkL l) hx hy (Blk.new 25 (bkL zeroL) wr) (by rw [bkL_len, hl]; exact Nat.le_refl _) (infoBl hl) (bkL_one _) ?_
  intro w' nb g
  rw [store_all (by rw [bkL_len, hl]; rfl)] at nb
  have hA := hK.alloc (.cells (bkL zeroL).toArray 25)
  have hG := hA.grown g (fun g' e => by cases e; exact ⟨hK.bb.size, hK.lt⟩)
  refine h w' ⟨hG.bb, fun p hp => ?_⟩ (below_row (below_alloc wr _) g (Nat.le_refl _))
  rcases List.mem_cons.1 hp with rfl | hp
  · exact ⟨hK.bb.size, hl, nb⟩
  · exact hG.bk p hp

/-- Entries put at the end of a row that is made here. -/
theorem step_cat0 {ops : Array Oper} {rest : List Oper} {o : Oper} {a : Act} {w wr : World} {Q : Exit → Act → World → Prop} {bs : List (Nat × List Int)} (hK : Kept w bs wr) (s x : Operand) (v2 : Value) (fs : List Ent) (hgd : o.guard = none)
    (ho : o.op = .call { callee := .builtin .append, args := #[s, x], argTypes := #[26, 26] })
    (hs : a.eval s = .slice none 0 0) (hx : a.eval x = v2) (hr : RdE wr v2 fs) (hl : fs.length ≤ 1000000000)
    (h : ∀ v' w', RowE wr.heap.size w' v' fs → Kept w bs w' → (∀ p ∈ bs, p.1 < wr.heap.size) → w.heap.size ≤ wr.heap.size → Below wr.heap.size wr w' → wpList Tryd.prog ops Q rest (a.put o.dst v') w') :
    wpList Tryd.prog ops Q (o :: rest) a wr := by
  refine wpList_catE hgd s x ho wr.heap.size (.slice none 0 0) v2 [] fs hs (RowE.nil _ _) (Nat.le_refl _) hx hr (by simp; omega) ?_
  intro v' w' r g
  have b := below_none g
  exact h v' w' r (hK.call b) hK.lt hK.bb.size b
theorem step_cat1 {ops : Array Oper} {rest : List Oper} {o : Oper} {a : Act} {w wr : World} {Q : Exit → Act → World → Prop} {bs : List (Nat × List Int)} (hK : Kept w bs wr) (s x : Operand) (base : Nat) (v v2 : Value) (es fs : List Ent) (hgd : o.guard = none)
    (ho : o.op = .call { callee := .builtin .append, args := #[s, x], argTypes := #[26, 26] })
    (hs : a.eval s = v) (hown : RowE base wr v es) (hp : ∀ p ∈ bs, p.1 < base) (hw : w.heap.size ≤ base) (hsz : base ≤ wr.heap.size) (hx : a.eval x = v2) (hr : RdE wr v2 fs) (hl : es.length + fs.length ≤ 1000000000)
    (h : ∀ v' w', RowE base w' v' (es ++ fs) → Kept w bs w' → wr.grownBy w' v.ownBlock → wpList Tryd.prog ops Q rest (a.put o.dst v') w') :
    wpList Tryd.prog ops Q (o :: rest) a wr := by
  refine wpList_catE hgd s x ho base v v2 es fs hs hown hsz hx hr (by omega) ?_
  intro v' w' r g
  exact h v' w' r (hK.grown g (fun g' e => by have := hown.ge e; exact ⟨by omega, fun p hp' => by have := hp p hp'; omega⟩)) g
end Go.Proofs.YtacdnigeboeleaaDoor
