/-
  Ours: a block's cells, loaded and stored by the row; the books' and the sums' cells.
-/
import Derived.Test.YtgdmkcbbomfmdaaGreatDoorProg
import Derived.Test.YtgdmkcbbomfmdaaGreatDoorWirRow
import Derived.Laws.CopyRow
import Derived.Laws.Rows
import Derived.Deep.MidRow
import Derived.KernelRfl
import Derived.Laws.ResultCell
namespace Go.Proofs.YtgdmkcbbomfmdaaGreatDoor
open Go.RowKit

/-- The block G holds just these cells. -/
def Blk (G : Nat) (ty : TypeId) (cs : List Value) (w : World) : Prop := w.heap[G]? = some (.cells cs.toArray ty (0, 0))
theorem Blk.lt {G : Nat} {ty : TypeId} {cs : List Value} {w : World} (h : Blk G ty cs w) : G < w.heap.size := (Array.getElem?_eq_some_iff.1 h).1
theorem Blk.cell {G : Nat} {ty : TypeId} {cs : List Value} {w : World} (h : Blk G ty cs w) (i : Nat) (u : Value) (hi : cs[i]? = some u) : w.cell? ⟨G, i, none⟩ = some u := by
  simp [World.cell?, show w.heap[G]? = _ from h, hi]
theorem Blk.fz {G : Nat} {ty : TypeId} {cs : List Value} {w : World} (h : Blk G ty cs w) (i : Nat) : w.frozen? ⟨G, i, none⟩ = false := by simp [World.frozen?, show w.heap[G]? = _ from h]
theorem Blk.grown {G : Nat} {row : Option Nat} {ty : TypeId} {cs : List Value} {w w' : World} (h : Blk G ty cs w) (hb : w.grownBy w' row) (hg : row ≠ some G) : Blk G ty cs w' :=
  (hb.block G h.lt (fun e => hg e.symm)).trans h
theorem Blk.below {G : Nat} {ty : TypeId} {cs : List Value} {w w' : World} (h : Blk G ty cs w) (hb : Below w.heap.size w w') : Blk G ty cs w' := (hb.block G h.lt).trans h
theorem Blk.drewN {G : Nat} {ty : TypeId} {cs : List Value} {w : World} (h : Blk G ty cs w) (n : Nat) : Blk G ty cs (w.drewN n) := h
theorem Blk.new (ty : TypeId) (cs : List Value) (w : World) : Blk w.heap.size ty cs (w.alloc (.cells cs.toArray ty)) := heap_alloc_new w _
theorem Blk.old {G : Nat} {ty : TypeId} {cs : List Value} {w : World} (h : Blk G ty cs w) (o : Obj) : Blk G ty cs (w.alloc o) := h.below (below_alloc w o)
theorem Blk.range {G : Nat} {ty : TypeId} {cs : List Value} {w : World} (h : Blk G ty cs w) (o n : Nat) : w.rangeAt G o ((cs.drop o).take n) := fun j v hv => by
  rw [List.getElem?_take] at hv
  split at hv
  · rw [List.getElem?_drop] at hv; exact h.cell _ _ hv
  · cases hv
theorem Blk.all {G : Nat} {ty : TypeId} {cs : List Value} {w : World} (h : Blk G ty cs w) : w.rangeAt G 0 cs := fun j v hv => h.cell _ _ (by rw [Nat.zero_add]; exact hv)
theorem below_row {G : Nat} {w w1 w2 : World} (h : Below w.heap.size w w1) (hg : w1.grownBy w2 (some G)) (hB : w.heap.size ≤ G) : Below w.heap.size w w2 :=
  h.grown hg h.size (fun k e => by cases e; exact hB)

theorem Blk.set {G i : Nat} {ty : TypeId} {cs : List Value} {w : World} (h : Blk G ty cs w) (u : Value) : Blk G ty (cs.set i u) (w.setCell ⟨G, i, none⟩ u) := by
  have := heap_setCell_same w G i cs.toArray ty u h
  unfold Blk
  rw [this]
  simp
theorem setCell_grown (w : World) (R i : Nat) (u : Value) : w.grownBy (w.setCell ⟨R, i, none⟩ u) (some R) := ⟨rfl, rfl, rfl, Nat.le_of_eq (by simp), fun k _ hk => Below.heap_setCell _ _ _ _ (fun e => hk (by rw [e]))⟩

theorem setRow_grown (w : World) (g : Nat) (cs : Array Value) : w.grownBy (w.setRow g cs) (some g) :=
  ⟨rfl, rfl, rfl, by simp, fun k _ hk => setRow_other w g k cs (fun e => hk (by rw [e]))⟩

section
variable {P : Program}
/-- A part of a block, loaded as one value. -/
theorem step_load {ops : Array Oper} {rest : List Oper} {op : Oper} {a : Act} {w : World} {Q : Exit → Act → World → Prop} (hgd : op.guard = none) (ty : TypeId) (x : Operand) (ho : op.op = .load ty x)
    (G o : Nat) (hx : a.eval x = .pointer (some ⟨G, o, none⟩)) (cs : List Value) (d : TypeDesc) (hc : w.rangeAt G o cs)
    (hu : P.underlying ty = some d) (hd : d.isRow = true) (hi : (P.info? ty).map (·.size) = some cs.length)
    (h : wpList P ops Q rest (a.put op.dst (.agg cs.toArray)) w) : wpList P ops Q (op :: rest) a w :=
  wpList_load_mid hgd ty x ho G o hx cs d hc hu hd hi h

theorem run_storeVar_blk (w : World) (G o : Nat) (t ty : TypeId) (cs vs : List Value) (hb : Blk G t cs w) (hfit : o + vs.length ≤ cs.length) (hi : (P.info? ty).map (·.size) = some vs.length) (h1 : ∀ v ∈ vs, v.oneCell' = true) :
    (storeVar ty ⟨G, o, none⟩ (.agg vs.toArray)).run P w = .ok () (w.setRow G (cs.take o ++ vs ++ cs.drop (o + vs.length)).toArray) := by
  have := run_storeCells_at P G o t vs 0 cs.toArray w hb (by simpa using hfit) h1
  cases hq : P.info? ty with
  | none => simp [hq] at hi
  | some i =>
    have hs : vs.length = i.size := by simp [hq] at hi; omega
    simp only [Nat.add_zero] at this
    simp [storeVar, sizeOf, typeInfo, hq, Value.cells, hs, this]

/-- A value stored into a part of a block. -/
theorem step_store {ops : Array Oper} {rest : List Oper} {op : Oper} {a : Act} {w : World} {Q : Exit → Act → World → Prop} (hgd : op.guard = none) (ty : TypeId) (x y : Operand) (ho : op.op = .store ty x y)
    (G o : Nat) (t : TypeId) (cs vs : List Value) (hx : a.eval x = .pointer (some ⟨G, o, none⟩)) (hy : a.eval y = .agg vs.toArray)
    (hb : Blk G t cs w) (hfit : o + vs.length ≤ cs.length) (hi : (P.info? ty).map (·.size) = some vs.length) (h1 : ∀ v ∈ vs, v.oneCell' = true)
    (h : ∀ w', Blk G t (cs.take o ++ vs ++ cs.drop (o + vs.length)) w' → w.grownBy w' (some G) → wpList P ops Q rest (a.put op.dst undef) w') : wpList P ops Q (op :: rest) a w :=
  wpList_plain hgd fun _ hK => by
    unfold Oper.wp execOp
    simp only [ho, hx, hy, Instr.storeAt, Instr.sureAddr, Sem.run_bind, Sem.run_pure, Result.andThen_ok, run_storeVar_blk w G o t ty cs vs hb hfit hi h1]
    exact hK _ _ (h _ (setRow_heap w G _ _ t _ hb) (setRow_grown w G _))

/-- An entry of an array that is a value. -/
theorem run_index_one (t e : TypeId) (n : Nat) (d : TypeDesc) (cs : Array Value) (k : Nat) (v : Value) (hu : P.underlying t = some (.array n e)) (hk : k < n) (he : P.underlying e = some d) (hd : d.isRow = false)
    (hi : (P.info? e).map (·.size) = some 1) (hv : cs[k]? = some v) (w : World) : (Instr.index t (.agg cs) (.int .i64 (k : Int))).run P w = .ok v w := by
  have hagg : (isAgg e).run P w = .ok false w := by
    unfold isAgg
    rw [Sem.run_bind, run_underlying he w]
    cases d <;> simp_all [TypeDesc.isRow]
  cases hq : P.info? e with
  | none => simp [hq] at hi
  | some i =>
    have hs : i.size = 1 := by simpa [hq] using hi
    simp [Instr.index, asIntOf, run_underlying hu, hk, part, sizeOf, typeInfo, hq, hs, hagg, hv]
end

theorem Blk.new2 (ty : TypeId) (cs : List Value) (w : World) (o : Obj) : Blk (w.heap.size + 1) ty cs ((w.alloc o).alloc (.cells cs.toArray ty)) := by
  have := Blk.new ty cs (w.alloc o)
  rwa [show (w.alloc o).heap.size = w.heap.size + 1 from by simp] at this
theorem Blk.new3 (ty : TypeId) (cs : List Value) (w : World) (o o' : Obj) : Blk (w.heap.size + 1 + 1) ty cs (((w.alloc o).alloc o').alloc (.cells cs.toArray ty)) := by
  have := Blk.new ty cs ((w.alloc o).alloc o')
  rwa [show ((w.alloc o).alloc o').heap.size = w.heap.size + 1 + 1 from by simp] at this
/-- A return of what lies in a block; with a plain value beside it. -/
theorem ret_blk {P : Program} {fn : Func} {R : Ending → World → Prop} {a : Act} {w : World} {p : Tmp} {ty : TypeId} (h : fn.results = #[.cell p ty]) (hdf : a.defers = [])
    (g : Nat) (t : TypeId) (cs : List Value) (d : TypeDesc) (hp : a.tmps.getD p undef = .pointer (some ⟨g, 0, none⟩)) (hg : Blk g t cs w)
    (hu : P.underlying ty = some d) (hd : (match d with | .struct _ | .array _ _ => true | _ => false) = true) (hi : (P.info? ty).map (·.size) = some cs.length)
    (hR : R (.returned (.agg cs.toArray)) w) : bodyPost P fn R .ret a w :=
  bodyPost_ret_by (results_cell_row h _ w g t cs.toArray (0, 0) d hp hg hu hd (by simpa using hi)) hdf hR
theorem ret_blk_tmp {P : Program} {fn : Func} {R : Ending → World → Prop} {a : Act} {w : World} {p u : Tmp} {ty : TypeId} (h : fn.results = #[.cell p ty, .tmp u]) (hdf : a.defers = [])
    (g : Nat) (t : TypeId) (cs : List Value) (d : TypeDesc) (hp : a.tmps.getD p undef = .pointer (some ⟨g, 0, none⟩)) (hg : Blk g t cs w)
    (hu : P.underlying ty = some d) (hd : (match d with | .struct _ | .array _ _ => true | _ => false) = true) (hi : (P.info? ty).map (·.size) = some cs.length)
    (hR : R (.returned (.tuple #[.agg cs.toArray, a.tmps.getD u undef])) w) : bodyPost P fn R .ret a w := by
  refine bodyPost_ret_by ?_ hdf hR
  rw [results_cell_tmp h]
  have hp' : a.tmps[p]?.getD undef = .pointer (some ⟨g, 0, none⟩) := by simpa using hp
  simp [hp', asAddr, Result.andThen, run_loadVar_row w g t ty cs.toArray (0, 0) d hg hu hd (by simpa using hi)]
namespace LedM
def i64 (x : Int) : Prop := -9223372036854775808 ≤ x ∧ x ≤ 9223372036854775807
/-- A book: twelve int64. -/
def BkOk (l : List Int) : Prop := l.length = 12 ∧ ∀ k, i64 (l.getD k 0)
end LedM
/-! The cells of a book, of the exact sums. -/
def bkL (l : List Int) : List Value := l.map (Value.int .i64)
theorem bkL_len (l : List Int) : (bkL l).length = l.length := by simp [bkL]
theorem bkL_at {l : List Int} {k : Nat} (h : k < l.length) : (bkL l)[k]? = some (.int .i64 (l.getD k 0)) := by
  simp [bkL, List.getD_eq_getElem?_getD, List.getElem?_eq_getElem h]
theorem bkL_one (l : List Int) : ∀ v ∈ bkL l, v.oneCell' = true := fun v hv => by obtain ⟨x, _, rfl⟩ := List.mem_map.1 hv; rfl
/-- A book as a value. -/
abbrev bk (l : List Int) : Value := .agg (bkL l).toArray
theorem bkL_set {l : List Int} (k : Nat) (x : Int) (h : k < l.length) : (bkL l).take k ++ [Value.int .i64 x] ++ (bkL l).drop (k + 1) = bkL (l.set k x) := by
  unfold bkL
  rw [List.map_set, List.set_eq_take_append_cons_drop, if_pos (by simpa using h)]
  simp
/-- A number of 128 bits in two halves. -/
def wdL (s : Int) : List Value := [.int .u64 (s / 18446744073709551616 % 18446744073709551616), .int .u64 (s % 18446744073709551616)]
def smL (ss : List Int) : List Value := ss.flatMap wdL
theorem smL_len : ∀ ss : List Int, (smL ss).length = 2 * ss.length
  | [] => rfl
  | s :: r => by
    have := smL_len r
    simp only [smL, List.flatMap_cons, List.length_append, List.length_cons] at this ⊢
    rw [show (wdL s).length = 2 from rfl]; omega
theorem smL_one (ss : List Int) : ∀ v ∈ smL ss, v.oneCell' = true := fun v hv => by
  obtain ⟨s, _, h⟩ := List.mem_flatMap.1 hv
  simp [wdL] at h
  rcases h with rfl | rfl <;> rfl
theorem smL_at : ∀ (ss : List Int) (k : Nat), k < ss.length → ((smL ss).drop (2 * k)).take 2 = wdL (ss.getD k 0)
  | s :: r, 0, _ => by simp [smL, wdL]
  | s :: r, k + 1, h => by
    have := smL_at r k (by simpa using h)
    rw [show 2 * (k + 1) = 2 * k + 1 + 1 from by omega]
    simpa [smL, wdL] using this
theorem smL_set : ∀ (ss : List Int) (k : Nat) (s : Int), k < ss.length → (smL ss).take (2 * k) ++ wdL s ++ (smL ss).drop (2 * k + 2) = smL (ss.set k s)
  | x :: r, 0, s, _ => by simp [smL, wdL]
  | x :: r, k + 1, s, h => by
    have := smL_set r k s (by simpa using h)
    rw [show 2 * (k + 1) = 2 * k + 1 + 1 from by omega]
    simpa [smL, wdL] using this
/-- The sums as a value; one of them. -/
abbrev sm (ss : List Int) : Value := .agg (smL ss).toArray
abbrev wd (s : Int) : Value := .agg (wdL s).toArray
end Go.Proofs.YtgdmkcbbomfmdaaGreatDoor
