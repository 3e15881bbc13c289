/-
  Ours: blocks loaded and stored by the row (as in LedOwn, over DskOwn's blocks); the end of a step on both disks.
-/
import Derived.Test.YtiefnomldfhhnaaDskPr2
import Derived.Laws.CopyRow
import Derived.Laws.Rows
import Derived.Deep.MidRow
namespace Go.Proofs.Ytiefnomldfhhnaa
open Go.RowKit

theorem Blk.all {G : Nat} {ty : TypeId} {cs : List Value} {w : World} (h : Blk G ty cs w) : w.rangeAt G 0 cs := fun j v hv => h.cell _ _ (by rw [Nat.zero_add]; exact hv)
theorem Blk.range {G : Nat} {ty : TypeId} {cs : List Value} {w : World} (h : Blk G ty cs w) (o n : Nat) : w.rangeAt G o ((cs.drop o).take n) := fun j v hv => by
  rw [List.getElem?_take] at hv
  split at hv
  · rw [List.getElem?_drop] at hv; exact h.cell _ _ hv
  · cases hv
theorem setRow_grown (w : World) (g : Nat) (cs : Array Value) : w.grownBy (w.setRow g cs) (some g) :=
  ⟨rfl, rfl, rfl, by simp, fun k _ hk => setRow_other w g k cs (fun e => hk (by rw [e]))⟩
section
variable {P : Program}
/-- A part of a block, loaded as one value. -/
theorem step_load {ops : Array Oper} {rest : List Oper} {op : Oper} {a : Act} {w : World} {Q : Exit → Act → World → Prop} (hgd : op.guard = none) (ty : TypeId) (x : Operand) (ho : op.op = .load ty x)
    (G o : Nat) (hx : a.eval x = .pointer (some ⟨G, o, none⟩)) (cs : List Value) (d : TypeDesc) (hc : w.rangeAt G o cs)
    (hu : P.underlying ty = some d) (hd : d.isRow = true) (hi : (P.info? ty).map (·.size) = some cs.length)
    (h : wpList P ops Q rest (a.put op.dst (.agg cs.toArray)) w) : wpList P ops Q (op :: rest) a w :=
  wpList_load_mid hgd ty x ho G o hx cs d hc hu hd hi h
theorem run_storeVar_blk (w : World) (G o : Nat) (t ty : TypeId) (cs vs : List Value) (hb : Blk G t cs w) (hfit : o + vs.length ≤ cs.length) (hi : (P.info? ty).map (·.size) = some vs.length) (h1 : ∀ v ∈ vs, v.oneCell' = true) :
    (storeVar ty ⟨G, o, none⟩ (.agg vs.toArray)).run P w = .ok () (w.setRow G (cs.take o ++ vs ++ cs.drop (o + vs.length)).toArray) := by
  have := run_storeCells_at P G o t vs 0 cs.toArray w hb (by simpa using hfit) h1
  cases hq : P.info? ty with
  | none => simp [hq] at hi
  | some i =>
    have hs : vs.length = i.size := by simp [hq] at hi; omega
    simp only [Nat.add_zero] at this
    simp [storeVar, sizeOf, typeInfo, hq, Value.cells, hs, this]
/-- A value stored into a part of a block. -/
theorem step_store {ops : Array Oper} {rest : List Oper} {op : Oper} {a : Act} {w : World} {Q : Exit → Act → World → Prop} (hgd : op.guard = none) (ty : TypeId) (x y : Operand) (ho : op.op = .store ty x y)
    (G o : Nat) (t : TypeId) (cs vs : List Value) (hx : a.eval x = .pointer (some ⟨G, o, none⟩)) (hy : a.eval y = .agg vs.toArray)
    (hb : Blk G t cs w) (hfit : o + vs.length ≤ cs.length) (hi : (P.info? ty).map (·.size) = some vs.length) (h1 : ∀ v ∈ vs, v.oneCell' = true)
    (h : ∀ w', Blk G t (cs.take o ++ vs ++ cs.drop (o + vs.length)) w' → w.grownBy w' (some G) → wpList P ops Q rest (a.put op.dst undef) w') : wpList P ops Q (op :: rest) a w :=
  wpList_plain hgd fun _ hK => by
    unfold Oper.wp execOp
    simp only [ho, hx, hy, Instr.storeAt, Instr.sureAddr, Sem.run_bind, Sem.run_pure, Result.andThen_ok, run_storeVar_blk w G o t ty cs vs hb hfit hi h1]
    exact hK _ _ (h _ (setRow_heap w G _ _ t _ hb) (setRow_grown w G _))
end
theorem infoPr (R : Nat) (x0 x1 p0 p1 xa : Sl) (cn : Int) (dn : Bool) (wr : Int) : (Try.prog.info? 37).map (·.size) = some (PV R x0 x1 p0 p1 xa cn dn wr).length := by show _ = some 9; kernel_rfl
theorem infoRv (x0 x1 p0 p1 xa : Sl) (cn : Int) (dn : Bool) (wr : Int) : (Try.prog.info? 34).map (·.size) = some (RV x0 x1 p0 p1 xa cn dn wr).length := by show _ = some 8; kernel_rfl
theorem infoOd (k : Int) (ot : Bool) (f a b : Int) (x : Option Addr) (n c : Nat) : (Try.prog.info? 28).map (·.size) = some (OD k ot f a b x n c).length := by show _ = some 6; kernel_rfl
theorem onePv (R : Nat) (x0 x1 p0 p1 xa : Sl) (cn : Int) (dn : Bool) (wr : Int) : ∀ v ∈ PV R x0 x1 p0 p1 xa cn dn wr, v.oneCell' = true := fun v hv => by
  simp [PV, RV] at hv
  rcases hv with rfl | rfl | rfl | rfl | rfl | rfl | rfl | rfl | rfl <;> rfl
theorem oneRv (x0 x1 p0 p1 xa : Sl) (cn : Int) (dn : Bool) (wr : Int) : ∀ v ∈ RV x0 x1 p0 p1 xa cn dn wr, v.oneCell' = true := fun v hv => onePv 0 x0 x1 p0 p1 xa cn dn wr v (List.mem_cons_of_mem _ hv)
theorem oneOd (k : Int) (ot : Bool) (f a b : Int) (x : Option Addr) (n c : Nat) : ∀ v ∈ OD k ot f a b x n c, v.oneCell' = true := fun v hv => by
  simp [OD] at hv
  rcases hv with rfl | rfl | rfl | rfl | rfl | rfl <;> rfl
/-- The end of a step on both: what was written behind it lies in blocks that were made between w and w3. -/
theorem pr_endM {w0 : World} {R : Nat} {S T M : Nat → Prop} {t t' : Dk} {x0 x1 p0 p1 xa y0 y1 q0 q1 ya : Sl} {cn cm : Int} {w w3 w4 w5 w6 w7 : World} {Q : Nat} (h : PrIn w0 R S T t x0 x1 p0 p1 xa cn w) (W3 : Below w.heap.size w w3) (rn : RfNew T w3 t' y0 y1 q0 q1 ya cm w4) (g5 : w4.grownBy w5 (some Q)) (hQ : w.heap.size ≤ Q) (hQ3 : Q < w3.heap.size) (p : DkPost R S w5 t' w6) (k7 : Kp M w6 w7) (hM : ∀ g, M g → w.heap.size ≤ g ∧ g < w3.heap.size) : PrPost w0 R S T w t' y0 y1 q0 q1 ya cm w7 := by
  have d5 := pr_mid h W3 rn g5 hQ
  obtain ⟨T', v, nT, hb⟩ := rn
  obtain ⟨S', i6, nS, k6⟩ := d5.post p
  have sz3 := W3.size
  have sz4 := hb.size
  have sz5 := g5.size
  have slt := h.d.at_.size
  have tlt := h.r.s
  have vlt := v.s
  have s0 := h.d.bel.size
  have tS : ∀ g, T' g → ¬ S g := fun g hg hs => by
    rcases nT g hg with h1 | h1
    · exact h.ap g h1 hs
    · have := slt g hs; omega
  have tQ : ∀ g, T' g → g ≠ Q := fun g hg e => by
    rcases nT g hg with h1 | h1
    · have := tlt g h1; omega
    · omega
  have v5 := v.kp (Kp.of_grown g5) (fun g hg e => by injection e with e; exact tQ g hg e.symm)
  have v6 := v5.kp k6 tS
  have i7 : PrIn w0 R S' T' t' y0 y1 q0 q1 ya cm w6 := ⟨i6, v6, fun g hg hs => by
    rcases nS g hs with h2 | h2
    · exact tS g hg h2
    · have := vlt g hg; omega, fun g hg => by
    rcases nT g hg with h1 | h1
    · exact h.tn g h1
    · omega⟩
  refine ⟨S', T', i7.kp k7 (fun g hs hm => ?_) (fun g hs hm => ?_) (fun g hm => by have := (hM g hm).1; omega), fun g hg => (nS g hg).imp id (fun h => by omega), fun g hg => (nT g hg).imp id (fun h => by omega), ?_⟩
  · have := hM g hm
    rcases nS g hs with h2 | h2
    · have := slt g h2; omega
    · omega
  · have := hM g hm
    rcases nT g hs with h2 | h2
    · have := tlt g h2; omega
    · omega
  · exact ((((Kp.of_below W3 S).trans (Kp.of_below hb S) (fun _ _ h => h)).trans (Kp.of_grown g5) (fun g h1 e => by injection e with e; omega)).trans k6 (fun _ _ h => h)).trans k7 (fun g h1 hm => by have := (hM g hm).1; omega)
end Go.Proofs.Ytiefnomldfhhnaa
