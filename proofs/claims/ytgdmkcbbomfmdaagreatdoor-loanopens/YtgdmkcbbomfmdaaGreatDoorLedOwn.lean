/-
  Ours: a block's cells, loaded and stored by the row; the books' and the sums' cells.
-/
import Derived.WalkKit
import Derived.WalkSpells
import Derived.WalkLawsBesides
import Derived.RowKit3
import Derived.ArgAppend
import Derived.OwnWalk
import Derived.Laws.OwnMore
import Derived.Lib.AppendStr
import Derived.Test.YtgdmkcbbomfmdaaGreatDoorProg
import Derived.Laws.CopyRow
import Derived.Laws.Rows
import Derived.Deep.MidRow
import Derived.KernelRfl
import Derived.Laws.ResultCell
namespace Go.Proofs.YtgdmkcbbomfmdaaGreatDoor
open Go.RowKit

theorem grownBy_trans {a b c : World} {row : Option Nat} (h : a.grownBy b row) (k : b.grownBy c row) : a.grownBy c row :=
  ⟨k.os.trans h.os, k.tape.trans h.tape, k.output.trans h.output, Nat.le_trans h.size k.size, fun i hi hn => (k.block i (Nat.lt_of_lt_of_le hi h.size) hn).trans (h.block i hi hn)⟩
theorem grownBy_refl (a : World) (row : Option Nat) : a.grownBy a row := ⟨rfl, rfl, rfl, Nat.le_refl _, fun _ _ _ => rfl⟩
theorem grownBy_drewN {a b : World} {row : Option Nat} (h : a.grownBy b row) (n : Nat) : a.grownBy (b.drewN n) row := ⟨h.os, h.tape, h.output, h.size, h.block⟩
theorem grownBy_below {a b : World} (h : Below a.heap.size a b) (row : Option Nat) : a.grownBy b row := ⟨h.os, h.tape, h.output, h.size, fun k hk _ => h.block k hk⟩
theorem grownBy_none {a b : World} (h : a.grownBy b none) (row : Option Nat) : a.grownBy b row := ⟨h.os, h.tape, h.output, h.size, fun k hk _ => h.block k hk (by simp)⟩
theorem below_none {a b : World} (h : a.grownBy b none) : Below a.heap.size a b := ⟨h.os, h.tape, h.output, h.size, fun k hk => h.block k hk (by simp)⟩

/-- A byte as a value; an int64 (and an int) as a value. -/
def bv (c : Nat) : Value := .int .u8 (c : Int)
def iv (x : Int) : Value := .int .i64 x

/-- The slice value v, among blocks from 'base' on, holds just these cells. -/
abbrev RowV (e : TypeId) (base : Nat) (w : World) (v : Value) (vs : List Value) : Prop := w.ownsRow base e 1 v vs.length vs
abbrev RowB (e : TypeId) (base : Nat) (w : World) (v : Value) (bs : List Nat) : Prop := RowV e base w v (bs.map bv)

/-- The slice value v reads as the cells vs. -/
def Rd (w : World) (v : Value) (vs : List Value) : Prop :=
  ∃ ao cap, v = .slice ao vs.length cap ∧ vs.length ≤ cap ∧ (ao = none → cap = 0) ∧ ∀ i (h : i < vs.length), ∃ g o, ao = some ⟨g, o, none⟩ ∧ g < w.heap.size ∧ w.cell? ⟨g, o + i, none⟩ = some vs[i]
abbrev RdB (w : World) (v : Value) (bs : List Nat) : Prop := Rd w v (bs.map bv)

theorem RowV.nil (e : TypeId) (base : Nat) (w : World) : RowV e base w (.slice none 0 0) [] := World.ownsRow_nil _ _ _ _

theorem RowV.later {e : TypeId} {base : Nat} {w w' : World} {v : Value} {xs : List Value} (h : RowV e base w v xs) (hb : Below w.heap.size w w') : RowV e base w' v xs := by
  refine World.ownsRow.kept h (row := none) ⟨hb.os, hb.tape, hb.output, hb.size, fun k hk _ => hb.block k hk⟩ ?_
  cases hv : v.ownBlock <;> simp

theorem RowV.kept {e : TypeId} {base : Nat} {w w' : World} {v : Value} {row : Option Nat} {xs : List Value} (h : RowV e base w v xs) (hb : w.grownBy w' row) (hn : ∀ g, v.ownBlock = some g → row ≠ some g) : RowV e base w' v xs := by
  refine World.ownsRow.kept h hb ?_
  cases hv : v.ownBlock with
  | none => exact .inl rfl
  | some g => exact .inr fun e => hn g hv e.symm

theorem RowV.mono {e : TypeId} {base base' : Nat} {w : World} {v : Value} {xs : List Value} (h : RowV e base w v xs) (hb : base' ≤ base) : RowV e base' w v xs := by
  refine ⟨h.1, ?_⟩
  rcases h.2 with hn | ⟨g, cap, cur, hv, hg, rest⟩
  · exact .inl hn
  · exact .inr ⟨g, cap, cur, hv, Nat.le_trans hb hg, rest⟩

theorem RowV.drewN {e : TypeId} {base : Nat} {w : World} {v : Value} {xs : List Value} (h : RowV e base w v xs) (n : Nat) : RowV e base (w.drewN n) v xs := h

theorem RowV.rd {e : TypeId} {base : Nat} {w : World} {v : Value} {vs : List Value} (h : RowV e base w v vs) : Rd w v vs := by
  have hc := fun (g : Nat) (hg : v.ownBlock = some g) => World.ownsRow.cells h hg
  rcases h.2 with ⟨rfl, h0⟩ | ⟨g, cap, cur, rfl, hb, hg, hn, hm, hs, ht⟩
  · exact ⟨none, 0, by rw [h0], by omega, fun _ => rfl, fun i hi => by omega⟩
  · have lt := (Array.getElem?_eq_some_iff.1 hg).1
    refine ⟨some ⟨g, 0, none⟩, cap, rfl, hn, (by intro h; cases h), fun i hi => ⟨g, 0, rfl, lt, ?_⟩⟩
    have hadd : (⟨g, 0, none⟩ : Addr).add i = ⟨g, 0 + i, none⟩ := by unfold Addr.add; split <;> simp_all
    rw [← hadd]
    exact hc g rfl i _ (List.getElem?_eq_getElem hi)

theorem Rd.grown {w w' : World} {v : Value} {vs : List Value} {row : Option Nat} (h : Rd w v vs) (hg : w.grownBy w' row) (hn : ∀ g, v.ownBlock = some g → row ≠ some g) : Rd w' v vs := by
  obtain ⟨ao, cap, rfl, h1, h2, h3⟩ := h
  refine ⟨ao, cap, rfl, h1, h2, fun i hi => ?_⟩
  obtain ⟨g, o, rfl, lt, hc⟩ := h3 i hi
  refine ⟨g, o, rfl, Nat.lt_of_lt_of_le lt hg.size, ?_⟩
  rw [World.cell?_of_block (hg.block g lt (fun e => hn g rfl e.symm)), hc]
theorem Rd.later {w w' : World} {v : Value} {vs : List Value} (h : Rd w v vs) (hb : Below w.heap.size w w') : Rd w' v vs := h.grown (grownBy_below hb none) (fun _ _ => by simp)
theorem Rd.drewN {w : World} {v : Value} {vs : List Value} (h : Rd w v vs) (n : Nat) : Rd (w.drewN n) v vs := h

/-- The row's length, whatever its address. -/
theorem Rd.len {w : World} {v : Value} {vs : List Value} (h : Rd w v vs) : ∃ ao cap, v = .slice ao vs.length cap ∧ vs.length ≤ cap ∧ (ao = none → cap = 0) := by
  obtain ⟨ao, cap, e, h1, h2, _⟩ := h; exact ⟨ao, cap, e, h1, h2⟩

theorem below_trans {w w1 w2 : World} (h1 : Below w.heap.size w w1) (h2 : Below w1.heap.size w1 w2) : Below w.heap.size w w2 := h1.trans (h2.mono h1.size)
theorem below_alloc (w : World) (o : Obj) : Below w.heap.size w (w.alloc o) := (Below.refl _ _).alloc (Nat.le_refl _) o
theorem below_drewN {B : Nat} {w w1 : World} (h : Below B w w1) (n : Nat) : Below B w (w1.drewN n) := ⟨h.os, h.tape, h.output, h.size, h.block⟩
theorem below_grown {e : TypeId} {base B : Nat} {w w1 w2 : World} {v : Value} {vs : List Value} (h : Below B w w1) (hr : RowV e base w1 v vs) (hB : B ≤ base) (hs : B ≤ w1.heap.size) (hg : w1.grownBy w2 v.ownBlock) : Below B w w2 :=
  h.grown hg hs (fun k hk => Nat.le_trans hB (World.ownsRow.lt hr k hk).1)
theorem RowV.block_ge {e : TypeId} {base : Nat} {w : World} {v : Value} {xs : List Value} (h : RowV e base w v xs) {g : Nat} (hg : v.ownBlock = some g) : base ≤ g := (World.ownsRow.lt h g hg).1
theorem RowV.block_lt {e : TypeId} {base : Nat} {w : World} {v : Value} {xs : List Value} (h : RowV e base w v xs) {g : Nat} (hg : v.ownBlock = some g) : g < w.heap.size := (World.ownsRow.lt h g hg).2
/-- An elder row and a later one lie apart. -/
theorem row_apart {e e' : TypeId} {base base' : Nat} {w w' : World} {v v' : Value} {xs ys : List Value} (h : RowV e base w v xs) (h' : RowV e' base' w' v' ys) (hb : w.heap.size ≤ base') : ∀ g, v'.ownBlock = some g → v.ownBlock ≠ some g := by
  intro g h1 h2
  have := h.block_lt h2
  have := h'.block_ge h1
  omega

/-- 'v = append(v, y)' on a row of the call's own: one cell more. -/
theorem wpList_pushV {P : Program} {wr : World} {ops : Array Oper} {rest : List Oper} {o : Oper} {a : Act} {Q : Exit → Act → World → Prop} (hgd : o.guard = none) (s x : Operand) (t : TypeId)
    (ho : o.op = .call { callee := .builtin .append, args := #[s, x], argTypes := #[t, t] })
    (e : TypeId) (i : TypeInfo) (z : Value) (by' : Nat) (ht : P.underlying t = some (.slice e)) (hi : P.info? e = some i) (hz : i.zero = some z) (hsize : i.size = 1) (hby : i.bytes = by') (hzc : z.cells.size = 1)
    (base : Nat) (v : Value) (vs : List Value) (y : Value) (hy : y.oneCell' = true) (hs : a.eval s = v) (hown : RowV e base wr v vs) (hsz : base ≤ wr.heap.size)
    (hx : a.eval x = .slice (some ⟨wr.heap.size, 0, none⟩) 1 1) (hl : vs.length + 1 ≤ maxLen) (hl2 : (vs.length + 1) * by' ≤ 140737488355328)
    (h : ∀ v' w', RowV e base w' v' (vs ++ [y]) → wr.grownBy w' v.ownBlock → wpList P ops Q rest (a.put o.dst v') w') :
    wpList P ops Q (o :: rest) a (wr.alloc (.cells #[y] e)) := by
  refine wpList_append_own _ hgd s x t ho base e i z 1 by' ht hi hz hsize hby hzc (by decide) v vs.length vs hs (World.ownsRow.alloc hown _) ⟨wr.heap.size, 0, none⟩ 1 1 [y] hx rfl ?_ ?_ hl hl2 ?_ ?_
  · intro j u hj
    match j, hj with
    | 0, hj => simp at hj; subst hj; simp [Addr.add]
  · intro u hu; simp at hu; subst hu; exact hy
  · simp; omega
  · intro v' w' hown' hgrow _
    refine h v' w' (by simpa [RowV] using hown') ⟨hgrow.os, hgrow.tape, hgrow.output, Nat.le_trans (by simp) hgrow.size, fun k hk hn => ?_⟩
    rw [hgrow.block k (by simp; omega) hn]
    exact (below_alloc wr (.cells #[y] e)).block k hk

/-- 'v = append(v, x...)' on a row of the call's own: the cells of another slice. -/
theorem wpList_catV {P : Program} {wr : World} {ops : Array Oper} {rest : List Oper} {o : Oper} {a : Act} {Q : Exit → Act → World → Prop} (hgd : o.guard = none) (s x : Operand) (t : TypeId)
    (ho : o.op = .call { callee := .builtin .append, args := #[s, x], argTypes := #[t, t] })
    (e : TypeId) (i : TypeInfo) (z : Value) (by' : Nat) (ht : P.underlying t = some (.slice e)) (hi : P.info? e = some i) (hz : i.zero = some z) (hsize : i.size = 1) (hby : i.bytes = by') (hzc : z.cells.size = 1)
    (base : Nat) (v v2 : Value) (vs us : List Value) (hy : ∀ u ∈ us, u.oneCell' = true) (hs : a.eval s = v) (hown : RowV e base wr v vs) (hsz : base ≤ wr.heap.size)
    (hx : a.eval x = v2) (hr : Rd wr v2 us) (hl : vs.length + us.length ≤ maxLen) (hl2 : (vs.length + us.length) * by' ≤ 140737488355328)
    (h : ∀ v' w', RowV e base w' v' (vs ++ us) → wr.grownBy w' v.ownBlock → wpList P ops Q rest (a.put o.dst v') w') :
    wpList P ops Q (o :: rest) a wr := by
  obtain ⟨ao, cap, rfl, h1, h2, h3⟩ := hr
  by_cases hu : us.length = 0
  · obtain rfl : us = [] := List.eq_nil_of_length_eq_zero hu
    cases ao with
    | none =>
      obtain rfl := h2 rfl
      have hr : ∀ ty, (Builtin.append_ #[t, t] ty #[v, .slice none 0 0]).run P wr = .ok v wr := fun ty => run_append_owned_none (P := P) wr base t ty e i 1 ht hi v vs.length vs hown
      refine wpList_plain hgd fun K hK => ?_
      unfold Oper.wp execOp
      simp only [ho, resolve, invoke, builtin, Sem.run_bind, Sem.run_pure, Result.andThen_ok, List.map_toArray, List.map_cons, List.map_nil, hs, hx, List.length_nil, hr]
      exact hK _ _ (h _ _ (by simpa using hown) (grownBy_refl _ _))
    | some ad =>
      refine wpList_append_own _ hgd s x t ho base e i z 1 by' ht hi hz hsize hby hzc (by decide) v vs.length vs hs hown ad 0 cap [] hx (by simp) (by simp) (by simp) (by simpa using hl) (by simpa using hl2) hsz ?_
      intro v' w' hown' hgrow _
      exact h v' w' (by simpa [RowV] using hown') hgrow
  · obtain ⟨g, off, rfl, lt, _⟩ := h3 0 (by omega)
    refine wpList_append_own _ hgd s x t ho base e i z 1 by' ht hi hz hsize hby hzc (by decide) v vs.length vs hs hown ⟨g, off, none⟩ us.length cap us hx (by simp) ?_ hy hl hl2 hsz ?_
    · intro j u hj
      obtain ⟨hjl, rfl⟩ := List.getElem?_eq_some_iff.1 hj
      obtain ⟨g', o', e1, _, hc⟩ := h3 j hjl
      cases e1
      have hadd : (⟨g, off, none⟩ : Addr).add j = ⟨g, off + j, none⟩ := by unfold Addr.add; split <;> simp_all
      rw [hadd]; exact hc
    · intro v' w' hown' hgrow _
      exact h v' w' (by simpa [RowV] using hown') hgrow
end Go.Proofs.YtgdmkcbbomfmdaaGreatDoor

namespace Go.Proofs.YtgdmkcbbomfmdaaGreatDoor
open Go.RowKit

/-- The block G holds just these cells. -/
def Blk (G : Nat) (ty : TypeId) (cs : List Value) (w : World) : Prop := w.heap[G]? = some (.cells cs.toArray ty (0, 0))
theorem Blk.lt {G : Nat} {ty : TypeId} {cs : List Value} {w : World} (h : Blk G ty cs w) : G < w.heap.size := (Array.getElem?_eq_some_iff.1 h).1
theorem Blk.cell {G : Nat} {ty : TypeId} {cs : List Value} {w : World} (h : Blk G ty cs w) (i : Nat) (u : Value) (hi : cs[i]? = some u) : w.cell? ⟨G, i, none⟩ = some u := by
  simp [World.cell?, show w.heap[G]? = _ from h, hi]
theorem Blk.fz {G : Nat} {ty : TypeId} {cs : List Value} {w : World} (h : Blk G ty cs w) (i : Nat) : w.frozen? ⟨G, i, none⟩ = false := by simp [World.frozen?, show w.heap[G]? = _ from h]
theorem Blk.grown {G : Nat} {row : Option Nat} {ty : TypeId} {cs : List Value} {w w' : World} (h : Blk G ty cs w) (hb : w.grownBy w' row) (hg : row ≠ some G) : Blk G ty cs w' :=
  (hb.block G h.lt (fun e => hg e.symm)).trans h
theorem Blk.below {G : Nat} {ty : TypeId} {cs : List Value} {w w' : World} (h : Blk G ty cs w) (hb : Below w.heap.size w w') : Blk G ty cs w' := (hb.block G h.lt).trans h
theorem Blk.drewN {G : Nat} {ty : TypeId} {cs : List Value} {w : World} (h : Blk G ty cs w) (n : Nat) : Blk G ty cs (w.drewN n) := h
theorem Blk.new (ty : TypeId) (cs : List Value) (w : World) : Blk w.heap.size ty cs (w.alloc (.cells cs.toArray ty)) := heap_alloc_new w _
theorem Blk.old {G : Nat} {ty : TypeId} {cs : List Value} {w : World} (h : Blk G ty cs w) (o : Obj) : Blk G ty cs (w.alloc o) := h.below (below_alloc w o)
theorem Blk.range {G : Nat} {ty : TypeId} {cs : List Value} {w : World} (h : Blk G ty cs w) (o n : Nat) : w.rangeAt G o ((cs.drop o).take n) := fun j v hv => by
  rw [List.getElem?_take] at hv
  split at hv
  · rw [List.getElem?_drop] at hv; exact h.cell _ _ hv
  · cases hv
theorem Blk.all {G : Nat} {ty : TypeId} {cs : List Value} {w : World} (h : Blk G ty cs w) : w.rangeAt G 0 cs := fun j v hv => h.cell _ _ (by rw [Nat.zero_add]; exact hv)
theorem below_row {G : Nat} {w w1 w2 : World} (h : Below w.heap.size w w1) (hg : w1.grownBy w2 (some G)) (hB : w.heap.size ≤ G) : Below w.heap.size w w2 :=
  h.grown hg h.size (fun k e => by cases e; exact hB)

theorem Blk.set {G i : Nat} {ty : TypeId} {cs : List Value} {w : World} (h : Blk G ty cs w) (u : Value) : Blk G ty (cs.set i u) (w.setCell ⟨G, i, none⟩ u) := by
  have := heap_setCell_same w G i cs.toArray ty u h
  unfold Blk
  rw [this]
  simp
theorem setCell_grown (w : World) (R i : Nat) (u : Value) : w.grownBy (w.setCell ⟨R, i, none⟩ u) (some R) := ⟨rfl, rfl, rfl, Nat.le_of_eq (by simp), fun k _ hk => Below.heap_setCell _ _ _ _ (fun e => hk (by rw [e]))⟩

theorem setRow_grown (w : World) (g : Nat) (cs : Array Value) : w.grownBy (w.setRow g cs) (some g) :=
  ⟨rfl, rfl, rfl, by simp, fun k _ hk => setRow_other w g k cs (fun e => hk (by rw [e]))⟩

section
variable {P : Program}
/-- A part of a block, loaded as one value. -/
theorem step_load {ops : Array Oper} {rest : List Oper} {op : Oper} {a : Act} {w : World} {Q : Exit → Act → World → Prop} (hgd : op.guard = none) (ty : TypeId) (x : Operand) (ho : op.op = .load ty x)
    (G o : Nat) (hx : a.eval x = .pointer (some ⟨G, o, none⟩)) (cs : List Value) (d : TypeDesc) (hc : w.rangeAt G o cs)
    (hu : P.underlying ty = some d) (hd : d.isRow = true) (hi : (P.info? ty).map (·.size) = some cs.length)
    (h : wpList P ops Q rest (a.put op.dst (.agg cs.toArray)) w) : wpList P ops Q (op :: rest) a w :=
  wpList_load_mid hgd ty x ho G o hx cs d hc hu hd hi h

theorem run_storeVar_blk (w : World) (G o : Nat) (t ty : TypeId) (cs vs : List Value) (hb : Blk G t cs w) (hfit : o + vs.length ≤ cs.length) (hi : (P.info? ty).map (·.size) = some vs.length) (h1 : ∀ v ∈ vs, v.oneCell' = true) :
    (storeVar ty ⟨G, o, none⟩ (.agg vs.toArray)).run P w = .ok () (w.setRow G (cs.take o ++ vs ++ cs.drop (o + vs.length)).toArray) := by
  have := run_storeCells_at P G o t vs 0 cs.toArray w hb (by simpa using hfit) h1
  cases hq : P.info? ty with
  | none => simp [hq] at hi
  | some i =>
    have hs : vs.length = i.size := by simp [hq] at hi; omega
    simp only [Nat.add_zero] at this
    simp [storeVar, sizeOf, typeInfo, hq, Value.cells, hs, this]

/-- A value stored into a part of a block. -/
theorem step_store {ops : Array Oper} {rest : List Oper} {op : Oper} {a : Act} {w : World} {Q : Exit → Act → World → Prop} (hgd : op.guard = none) (ty : TypeId) (x y : Operand) (ho : op.op = .store ty x y)
    (G o : Nat) (t : TypeId) (cs vs : List Value) (hx : a.eval x = .pointer (some ⟨G, o, none⟩)) (hy : a.eval y = .agg vs.toArray)
    (hb : Blk G t cs w) (hfit : o + vs.length ≤ cs.length) (hi : (P.info? ty).map (·.size) = some vs.length) (h1 : ∀ v ∈ vs, v.oneCell' = true)
    (h : ∀ w', Blk G t (cs.take o ++ vs ++ cs.drop (o + vs.length)) w' → w.grownBy w' (some G) → wpList P ops Q rest (a.put op.dst undef) w') : wpList P ops Q (op :: rest) a w :=
  wpList_plain hgd fun _ hK => by
    unfold Oper.wp execOp
    simp only [ho, hx, hy, Instr.storeAt, Instr.sureAddr, Sem.run_bind, Sem.run_pure, Result.andThen_ok, run_storeVar_blk w G o t ty cs vs hb hfit hi h1]
    exact hK _ _ (h _ (setRow_heap w G _ _ t _ hb) (setRow_grown w G _))

/-- An entry of an array that is a value. -/
theorem run_index_one (t e : TypeId) (n : Nat) (d : TypeDesc) (cs : Array Value) (k : Nat) (v : Value) (hu : P.underlying t = some (.array n e)) (hk : k < n) (he : P.underlying e = some d) (hd : d.isRow = false)
    (hi : (P.info? e).map (·.size) = some 1) (hv : cs[k]? = some v) (w : World) : (Instr.index t (.agg cs) (.int .i64 (k : Int))).run P w = .ok v w := by
  have hagg : (isAgg e).run P w = .ok false w := by
    unfold isAgg
    rw [Sem.run_bind, run_underlying he w]
    cases d <;> simp_all [TypeDesc.isRow]
  cases hq : P.info? e with
  | none => simp [hq] at hi
  | some i =>
    have hs : i.size = 1 := by simpa [hq] using hi
    simp [Instr.index, asIntOf, run_underlying hu, hk, part, sizeOf, typeInfo, hq, hs, hagg, hv]
end

theorem Blk.new2 (ty : TypeId) (cs : List Value) (w : World) (o : Obj) : Blk (w.heap.size + 1) ty cs ((w.alloc o).alloc (.cells cs.toArray ty)) := by
  have := Blk.new ty cs (w.alloc o)
  rwa [show (w.alloc o).heap.size = w.heap.size + 1 from by simp] at this
theorem Blk.new3 (ty : TypeId) (cs : List Value) (w : World) (o o' : Obj) : Blk (w.heap.size + 1 + 1) ty cs (((w.alloc o).alloc o').alloc (.cells cs.toArray ty)) := by
  have := Blk.new ty cs ((w.alloc o).alloc o')
  rwa [show ((w.alloc o).alloc o').heap.size = w.heap.size + 1 + 1 from by simp] at this
/-- A return of what lies in a block; with a plain value beside it. -/
theorem ret_blk {P : Program} {fn : Func} {R : Ending → World → Prop} {a : Act} {w : World} {p : Tmp} {ty : TypeId} (h : fn.results = #[.cell p ty]) (hdf : a.defers = [])
    (g : Nat) (t : TypeId) (cs : List Value) (d : TypeDesc) (hp : a.tmps.getD p undef = .pointer (some ⟨g, 0, none⟩)) (hg : Blk g t cs w)
    (hu : P.underlying ty = some d) (hd : (match d with | .struct _ | .array _ _ => true | _ => false) = true) (hi : (P.info? ty).map (·.size) = some cs.length)
    (hR : R (.returned (.agg cs.toArray)) w) : bodyPost P fn R .ret a w :=
  bodyPost_ret_by (results_cell_row h _ w g t cs.toArray (0, 0) d hp hg hu hd (by simpa using hi)) hdf hR
theorem ret_blk_tmp {P : Program} {fn : Func} {R : Ending → World → Prop} {a : Act} {w : World} {p u : Tmp} {ty : TypeId} (h : fn.results = #[.cell p ty, .tmp u]) (hdf : a.defers = [])
    (g : Nat) (t : TypeId) (cs : List Value) (d : TypeDesc) (hp : a.tmps.getD p undef = .pointer (some ⟨g, 0, none⟩)) (hg : Blk g t cs w)
    (hu : P.underlying ty = some d) (hd : (match d with | .struct _ | .array _ _ => true | _ => false) = true) (hi : (P.info? ty).map (·.size) = some cs.length)
    (hR : R (.returned (.tuple #[.agg cs.toArray, a.tmps.getD u undef])) w) : bodyPost P fn R .ret a w := by
  refine bodyPost_ret_by ?_ hdf hR
  rw [results_cell_tmp h]
  have hp' : a.tmps[p]?.getD undef = .pointer (some ⟨g, 0, none⟩) := by simpa using hp
  simp [hp', asAddr, Result.andThen, run_loadVar_row w g t ty cs.toArray (0, 0) d hg hu hd (by simpa using hi)]
namespace LedM
def i64 (x : Int) : Prop := -9223372036854775808 ≤ x ∧ x ≤ 9223372036854775807
/-- A book: twelve int64. -/
def BkOk (l : List Int) : Prop := l.length = 12 ∧ ∀ k, i64 (l.getD k 0)
end LedM
/-! The cells of a book, of the exact sums. -/
def bkL (l : List Int) : List Value := l.map (Value.int .i64)
theorem bkL_len (l : List Int) : (bkL l).length = l.length := by simp [bkL]
theorem bkL_at {l : List Int} {k : Nat} (h : k < l.length) : (bkL l)[k]? = some (.int .i64 (l.getD k 0)) := by
  simp [bkL, List.getD_eq_getElem?_getD, List.getElem?_eq_getElem h]
theorem bkL_one (l : List Int) : ∀ v ∈ bkL l, v.oneCell' = true := fun v hv => by obtain ⟨x, _, rfl⟩ := List.mem_map.1 hv; rfl
/-- A book as a value. -/
abbrev bk (l : List Int) : Value := .agg (bkL l).toArray
theorem bkL_set {l : List Int} (k : Nat) (x : Int) (h : k < l.length) : (bkL l).take k ++ [Value.int .i64 x] ++ (bkL l).drop (k + 1) = bkL (l.set k x) := by
  unfold bkL
  rw [List.map_set, List.set_eq_take_append_cons_drop, if_pos (by simpa using h)]
  simp
/-- A number of 128 bits in two halves. -/
def wdL (s : Int) : List Value := [.int .u64 (s / 18446744073709551616 % 18446744073709551616), .int .u64 (s % 18446744073709551616)]
def smL (ss : List Int) : List Value := ss.flatMap wdL
theorem smL_len : ∀ ss : List Int, (smL ss).length = 2 * ss.length
  | [] => rfl
  | s :: r => by
    have := smL_len r
    simp only [smL, List.flatMap_cons, List.length_append, List.length_cons] at this ⊢
    rw [show (wdL s).length = 2 from rfl]; omega
theorem smL_one (ss : List Int) : ∀ v ∈ smL ss, v.oneCell' = true := fun v hv => by
  obtain ⟨s, _, h⟩ := List.mem_flatMap.1 hv
  simp [wdL] at h
  rcases h with rfl | rfl <;> rfl
theorem smL_at : ∀ (ss : List Int) (k : Nat), k < ss.length → ((smL ss).drop (2 * k)).take 2 = wdL (ss.getD k 0)
  | s :: r, 0, _ => by simp [smL, wdL]
  | s :: r, k + 1, h => by
    have := smL_at r k (by simpa using h)
    rw [show 2 * (k + 1) = 2 * k + 1 + 1 from by omega]
    simpa [smL, wdL] using this
theorem smL_set : ∀ (ss : List Int) (k : Nat) (s : Int), k < ss.length → (smL ss).take (2 * k) ++ wdL s ++ (smL ss).drop (2 * k + 2) = smL (ss.set k s)
  | x :: r, 0, s, _ => by simp [smL, wdL]
  | x :: r, k + 1, s, h => by
    have := smL_set r k s (by simpa using h)
    rw [show 2 * (k + 1) = 2 * k + 1 + 1 from by omega]
    simpa [smL, wdL] using this
/-- The sums as a value; one of them. -/
abbrev sm (ss : List Int) : Value := .agg (smL ss).toArray
abbrev wd (s : Int) : Value := .agg (wdL s).toArray
end Go.Proofs.YtgdmkcbbomfmdaaGreatDoor
