/-
  Ours: structs loaded and stored, over the blocks of WirDecOp0B (out of JouOwn).
-/
import Derived.Test.YtdbjjeaflfoppaaWirEncR
import Derived.Deep.RegionHeld
import Derived.Deep.CutRange
import Derived.Laws.CopyRow
import Derived.Laws.Rows
import Derived.Deep.MidRow
import Derived.KernelRfl
import Derived.Laws.ResultCell
namespace Go.Proofs.Ytdbjjeaflfoppaa
open Go.RowKit

theorem Blk.drewN {G : Nat} {ty : TypeId} {cs : List Value} {w : World} (h : Blk G ty cs w) (n : Nat) : Blk G ty cs (w.drewN n) := h
theorem Blk.old {G : Nat} {ty : TypeId} {cs : List Value} {w : World} (h : Blk G ty cs w) (o : Obj) : Blk G ty cs (w.alloc o) := h.below (below_alloc w o)
theorem Blk.all {G : Nat} {ty : TypeId} {cs : List Value} {w : World} (h : Blk G ty cs w) : w.rangeAt G 0 cs := fun j v hv => h.cell _ _ (by rw [Nat.zero_add]; exact hv)
theorem below_row {G : Nat} {w w1 w2 : World} (h : Below w.heap.size w w1) (hg : w1.grownBy w2 (some G)) (hB : w.heap.size ≤ G) : Below w.heap.size w w2 :=
  h.grown hg h.size (fun k e => by cases e; exact hB)

theorem setRow_grown (w : World) (g : Nat) (cs : Array Value) : w.grownBy (w.setRow g cs) (some g) :=
  ⟨rfl, rfl, rfl, by simp, fun k _ hk => setRow_other w g k cs (fun e => hk (by rw [e]))⟩

section
variable {P : Program}
/-- A part of a block, loaded as one value. -/
theorem step_load {ops : Array Oper} {rest : List Oper} {op : Oper} {a : Act} {w : World} {Q : Exit → Act → World → Prop} (hgd : op.guard = none) (ty : TypeId) (x : Operand) (ho : op.op = .load ty x)
    (G o : Nat) (hx : a.eval x = .pointer (some ⟨G, o, none⟩)) (cs : List Value) (d : TypeDesc) (hc : w.rangeAt G o cs)
    (hu : P.underlying ty = some d) (hd : d.isRow = true) (hi : (P.info? ty).map (·.size) = some cs.length)
    (h : wpList P ops Q rest (a.put op.dst (.agg cs.toArray)) w) : wpList P ops Q (op :: rest) a w :=
  wpList_load_mid hgd ty x ho G o hx cs d hc hu hd hi h

theorem run_storeVar_blk (w : World) (G o : Nat) (t ty : TypeId) (cs vs : List Value) (hb : Blk G t cs w) (hfit : o + vs.length ≤ cs.length) (hi : (P.info? ty).map (·.size) = some vs.length) (h1 : ∀ v ∈ vs, v.oneCell' = true) :
    (storeVar ty ⟨G, o, none⟩ (.agg vs.toArray)).run P w = .ok () (w.setRow G (cs.take o ++ vs ++ cs.drop (o + vs.length)).toArray) := by
  have := run_storeCells_at P G o t vs 0 cs.toArray w hb (by simpa using hfit) h1
  cases hq : P.info? ty with
  | none => simp [hq] at hi
  | some i =>
    have hs : vs.length = i.size := by simp [hq] at hi; omega
    simp only [Nat.add_zero] at this
    simp [storeVar, sizeOf, typeInfo, hq, Value.cells, hs, this]

/-- A value stored into a part of a block. -/
theorem step_store {ops : Array Oper} {rest : List Oper} {op : Oper} {a : Act} {w : World} {Q : Exit → Act → World → Prop} (hgd : op.guard = none) (ty : TypeId) (x y : Operand) (ho : op.op = .store ty x y)
    (G o : Nat) (t : TypeId) (cs vs : List Value) (hx : a.eval x = .pointer (some ⟨G, o, none⟩)) (hy : a.eval y = .agg vs.toArray)
    (hb : Blk G t cs w) (hfit : o + vs.length ≤ cs.length) (hi : (P.info? ty).map (·.size) = some vs.length) (h1 : ∀ v ∈ vs, v.oneCell' = true)
    (h : ∀ w', Blk G t (cs.take o ++ vs ++ cs.drop (o + vs.length)) w' → w.grownBy w' (some G) → wpList P ops Q rest (a.put op.dst undef) w') : wpList P ops Q (op :: rest) a w :=
  wpList_plain hgd fun _ hK => by
    unfold Oper.wp execOp
    simp only [ho, hx, hy, Instr.storeAt, Instr.sureAddr, Sem.run_bind, Sem.run_pure, Result.andThen_ok, run_storeVar_blk w G o t ty cs vs hb hfit hi h1]
    exact hK _ _ (h _ (setRow_heap w G _ _ t _ hb) (setRow_grown w G _))

/-- An entry of an array that is a value. -/
theorem run_index_one (t e : TypeId) (n : Nat) (d : TypeDesc) (cs : Array Value) (k : Nat) (v : Value) (hu : P.underlying t = some (.array n e)) (hk : k < n) (he : P.underlying e = some d) (hd : d.isRow = false)
    (hi : (P.info? e).map (·.size) = some 1) (hv : cs[k]? = some v) (w : World) : (Instr.index t (.agg cs) (.int .i64 (k : Int))).run P w = .ok v w := by
  have hagg : (isAgg e).run P w = .ok false w := by
    unfold isAgg
    rw [Sem.run_bind, run_underlying he w]
    cases d <;> simp_all [TypeDesc.isRow]
  cases hq : P.info? e with
  | none => simp [hq] at hi
  | some i =>
    have hs : i.size = 1 := by simpa [hq] using hi
    simp [Instr.index, asIntOf, run_underlying hu, hk, part, sizeOf, typeInfo, hq, hs, hagg, hv]
end
theorem Blk.new2 (ty : TypeId) (cs : List Value) (w : World) (o : Obj) : Blk (w.heap.size + 1) ty cs ((w.alloc o).alloc (.cells cs.toArray ty)) := by
  have := Blk.new ty cs (w.alloc o)
  rwa [show (w.alloc o).heap.size = w.heap.size + 1 from by simp] at this
theorem Blk.new3 (ty : TypeId) (cs : List Value) (w : World) (o o' : Obj) : Blk (w.heap.size + 1 + 1) ty cs (((w.alloc o).alloc o').alloc (.cells cs.toArray ty)) := by
  have := Blk.new ty cs ((w.alloc o).alloc o')
  rwa [show ((w.alloc o).alloc o').heap.size = w.heap.size + 1 + 1 from by simp] at this
/-- A return of what lies in a block; with a plain value beside it. -/
theorem ret_blk {P : Program} {fn : Func} {R : Ending → World → Prop} {a : Act} {w : World} {p : Tmp} {ty : TypeId} (h : fn.results = #[.cell p ty]) (hdf : a.defers = [])
    (g : Nat) (t : TypeId) (cs : List Value) (d : TypeDesc) (hp : a.tmps.getD p undef = .pointer (some ⟨g, 0, none⟩)) (hg : Blk g t cs w)
    (hu : P.underlying ty = some d) (hd : (match d with | .struct _ | .array _ _ => true | _ => false) = true) (hi : (P.info? ty).map (·.size) = some cs.length)
    (hR : R (.returned (.agg cs.toArray)) w) : bodyPost P fn R .ret a w :=
  bodyPost_ret_by (results_cell_row h _ w g t cs.toArray (0, 0) d hp hg hu hd (by simpa using hi)) hdf hR
theorem ret_blk_tmp {P : Program} {fn : Func} {R : Ending → World → Prop} {a : Act} {w : World} {p u : Tmp} {ty : TypeId} (h : fn.results = #[.cell p ty, .tmp u]) (hdf : a.defers = [])
    (g : Nat) (t : TypeId) (cs : List Value) (d : TypeDesc) (hp : a.tmps.getD p undef = .pointer (some ⟨g, 0, none⟩)) (hg : Blk g t cs w)
    (hu : P.underlying ty = some d) (hd : (match d with | .struct _ | .array _ _ => true | _ => false) = true) (hi : (P.info? ty).map (·.size) = some cs.length)
    (hR : R (.returned (.tuple #[.agg cs.toArray, a.tmps.getD u undef])) w) : bodyPost P fn R .ret a w := by
  refine bodyPost_ret_by ?_ hdf hR
  rw [results_cell_tmp h]
  have hp' : a.tmps[p]?.getD undef = .pointer (some ⟨g, 0, none⟩) := by simpa using hp
  simp [hp', asAddr, Result.andThen, run_loadVar_row w g t ty cs.toArray (0, 0) d hg hu hd (by simpa using hi)]
/-- The next operation is a store. -/
theorem at_store {P : Program} {ops : Array Oper} {rest : List Oper} {a : Act} {w : World} {Q : Exit → Act → World → Prop} {dst : Option Tmp} {ty t : TypeId} {x y : Operand} {pos : String} {af : Array Edge}
    (h : wpList P ops Q ({ dst := dst, op := .store ty x y, type := t, pos := pos, after := af, guard := none } :: rest) a w) : wpList P ops Q ({ dst := dst, op := .store ty x y, type := t, pos := pos, after := af, guard := none } :: rest) a w := h
theorem blk_put {G T : Nat} {Z RL : List Value} {w : World} (hZ : Z.length ≤ 0 + RL.length) (h : Blk G T (Z.take 0 ++ RL ++ Z.drop (0 + RL.length)) w) : Blk G T RL w := by
  rw [List.take_zero, List.nil_append, List.drop_of_length_le hZ, List.append_nil] at h; exact h
end Go.Proofs.Ytdbjjeaflfoppaa
