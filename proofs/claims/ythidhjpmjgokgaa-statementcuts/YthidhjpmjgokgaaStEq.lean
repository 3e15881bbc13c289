/-
  Ours: movements and books that are asked whether they are equal to themselves.
-/
import Derived.Test.YthidhjpmjgokgaaStRow
import Derived.DeepKeys
import Derived.Laws.StructEq
import Derived.BigGuard
namespace Go.Proofs.Ythidhjpmjgokgaa
open Go.RowKit LedM StM

theorem wf64 {x : Int} (h : i64 x) : (Lit.int .i64 x).wf = true := by
  have h1 : IntKind.i64.min = -9223372036854775808 := by decide
  have h2 : IntKind.i64.max = 9223372036854775807 := by decide
  simp only [Lit.wf, h1, h2, Bool.and_eq_true, decide_eq_true_eq]
  exact h
/-- Two structs that are equal. -/
def EqS (t : TypeId) (X : List Value) : Prop := ∀ w, (Op.equalIn 10000 t (.agg X.toArray) (.agg X.toArray)).run Try.prog w = .ok true w
theorem eqs_any {t : TypeId} {m D : Nat} (hk : Try.prog.keyTypeAt m t = true) (hm : m ≤ 10000) {X : List Value} {lx : List Lit} (fx : (Value.agg X.toArray).formed Try.prog t = true)
    (hx : Try.prog.keyLits D t X = some lx) : EqS t X := fun w => by
  have E := run_equalIn_deep (P := Try.prog) (10000 - m) m t hk
  rw [show 10000 - m + m = 10000 from by omega] at E
  obtain ⟨r, h1, h2⟩ := E w D D _ _ lx lx fx fx (by simpa [Value.cells] using hx) (by simpa [Value.cells] using hx)
  rw [h1, h2.2 rfl]
set_option maxRecDepth 20000 in
theorem eqs_mo (m : List Int) (hm : MoOk m) : EqS 34 (bkL m) := by
  obtain ⟨hl, hw⟩ := hm
  obtain ⟨d, k, x0, x1, x2, x3, x4, x5, x6, x7, x8, x9, x10, x11, rfl⟩ := list14 hl
  have f := fun i => wf64 (hw i)
  have g0 : (Lit.int .i64 d).wf = true := f 0
  have g1 : (Lit.int .i64 k).wf = true := f 1
  have a0 : (Lit.int .i64 x0).wf = true := f 2
  have a1 : (Lit.int .i64 x1).wf = true := f 3
  have a2 : (Lit.int .i64 x2).wf = true := f 4
  have a3 : (Lit.int .i64 x3).wf = true := f 5
  have a4 : (Lit.int .i64 x4).wf = true := f 6
  have a5 : (Lit.int .i64 x5).wf = true := f 7
  have a6 : (Lit.int .i64 x6).wf = true := f 8
  have a7 : (Lit.int .i64 x7).wf = true := f 9
  have a8 : (Lit.int .i64 x8).wf = true := f 10
  have a9 : (Lit.int .i64 x9).wf = true := f 11
  have a10 : (Lit.int .i64 x10).wf = true := f 12
  have a11 : (Lit.int .i64 x11).wf = true := f 13
  clear f hw hl
  have c0 : Try.prog.cellsOf 34 = 14 := by kernel_rfl
  have c1 : Try.prog.cellsOf 26 = 12 := by kernel_rfl
  have c2 : Try.prog.cellsOf 3 = 1 := by kernel_rfl
  have c3 : Try.prog.cellsOf 2 = 1 := by kernel_rfl
  have c4 : Try.prog.cellsOf 24 = 12 := by kernel_rfl
  refine eqs_any (m := 4) (D := 4) (lx := [.int .i64 d, .int .i64 k, .int .i64 x0, .int .i64 x1, .int .i64 x2, .int .i64 x3, .int .i64 x4, .int .i64 x5, .int .i64 x6, .int .i64 x7, .int .i64 x8, .int .i64 x9, .int .i64 x10, .int .i64 x11]) (by kernel_rfl) (by decide) (by simp [Value.formed, Try.underlying34, c0, bkL]) ?_
  simp [Program.keyLits, Try.underlying3, Try.underlying2, c0, c1, c2, c3, c4, Try.underlying24, List.range_succ, Try.underlying26, Try.underlying34, bkL, g0, g1, a0, a1, a2, a3, a4, a5, a6, a7, a8, a9, a10, a11]
set_option maxRecDepth 20000 in
theorem eqs_bk (m : List Int) (hm : BkOk m) : EqS 26 (bkL m) := by
  obtain ⟨hl, hw⟩ := hm
  have hx : ∃ x0 x1 x2 x3 x4 x5 x6 x7 x8 x9 x10 x11, m = [x0, x1, x2, x3, x4, x5, x6, x7, x8, x9, x10, x11] := by
    match m, hl with
    | [x0, x1, x2, x3, x4, x5, x6, x7, x8, x9, x10, x11], _ => exact ⟨x0, x1, x2, x3, x4, x5, x6, x7, x8, x9, x10, x11, rfl⟩
  obtain ⟨x0, x1, x2, x3, x4, x5, x6, x7, x8, x9, x10, x11, rfl⟩ := hx
  have f := fun i => wf64 (hw i)
  have a0 : (Lit.int .i64 x0).wf = true := f 0
  have a1 : (Lit.int .i64 x1).wf = true := f 1
  have a2 : (Lit.int .i64 x2).wf = true := f 2
  have a3 : (Lit.int .i64 x3).wf = true := f 3
  have a4 : (Lit.int .i64 x4).wf = true := f 4
  have a5 : (Lit.int .i64 x5).wf = true := f 5
  have a6 : (Lit.int .i64 x6).wf = true := f 6
  have a7 : (Lit.int .i64 x7).wf = true := f 7
  have a8 : (Lit.int .i64 x8).wf = true := f 8
  have a9 : (Lit.int .i64 x9).wf = true := f 9
  have a10 : (Lit.int .i64 x10).wf = true := f 10
  have a11 : (Lit.int .i64 x11).wf = true := f 11
  clear f hw hl
  have c1 : Try.prog.cellsOf 26 = 12 := by kernel_rfl
  have c3 : Try.prog.cellsOf 2 = 1 := by kernel_rfl
  have c4 : Try.prog.cellsOf 24 = 12 := by kernel_rfl
  refine eqs_any (m := 3) (D := 3) (lx := [.int .i64 x0, .int .i64 x1, .int .i64 x2, .int .i64 x3, .int .i64 x4, .int .i64 x5, .int .i64 x6, .int .i64 x7, .int .i64 x8, .int .i64 x9, .int .i64 x10, .int .i64 x11]) (by kernel_rfl) (by decide) (by simp [Value.formed, Try.underlying26, c1, bkL]) ?_
  simp [Program.keyLits, Try.underlying2, c1, c3, c4, Try.underlying24, List.range_succ, Try.underlying26, bkL, a0, a1, a2, a3, a4, a5, a6, a7, a8, a9, a10, a11]
section
variable {ops : Array Oper}
theorem step_neqS {rest : List Oper} {op : Oper} {a : Act} {w : World} {Q : Exit → Act → World → Prop} (hw : Region.wanted op (yielded ops a.tmps) = true) (t t' : TypeId) (x y : Operand) (ho : op.op = .binOp .neq t x y t') (X : List Value) (hx : a.eval x = .agg X.toArray) (hy : a.eval y = .agg X.toArray) (hg : Try.prog.eqGuardType Try.prog.depth t = false) (he : EqS t X)
    (h : wpList Try.prog ops Q rest (a.put op.dst (.bool false)) w) : wpList Try.prog ops Q (op :: rest) a w :=
  BigFrame.wpList_want hw fun _ hK => by
    unfold Oper.wp execOp
    simp only [ho, hx, hy, Sem.run_bind, run_eqGuard_agg w _ _ _ _ _ _ hg, Result.andThen_ok, run_neq_struct, he w]
    exact hK _ _ h
theorem step_eqlS {rest : List Oper} {op : Oper} {a : Act} {w : World} {Q : Exit → Act → World → Prop} (hw : Region.wanted op (yielded ops a.tmps) = true) (t t' : TypeId) (x y : Operand) (ho : op.op = .binOp .eql t x y t') (X : List Value) (hx : a.eval x = .agg X.toArray) (hy : a.eval y = .agg X.toArray) (hg : Try.prog.eqGuardType Try.prog.depth t = false) (he : EqS t X)
    (h : wpList Try.prog ops Q rest (a.put op.dst (.bool true)) w) : wpList Try.prog ops Q (op :: rest) a w :=
  BigFrame.wpList_want hw fun _ hK => by
    unfold Oper.wp execOp
    simp only [ho, hx, hy, Sem.run_bind, run_eqGuard_agg w _ _ _ _ _ _ hg, Result.andThen_ok, run_eql_struct, he w]
    exact hK _ _ h
theorem yieldsIf_neqS {S : World → Prop} {op : Oper} {a : Act} (hw : Region.wanted op (yielded ops a.tmps) = true) (t t' : TypeId) (x y : Operand) (ho : op.op = .binOp .neq t x y t') (X : List Value) (hx : a.eval x = .agg X.toArray) (hy : a.eval y = .agg X.toArray)
    (hg : Try.prog.eqGuardType Try.prog.depth t = false) (he : EqS t X) : YieldsIf Try.prog ops S op (.bool false) a := .inl ⟨hw, fun w _ => by
  unfold execOp
  simp only [ho, hx, hy, Sem.run_bind, run_eqGuard_agg w _ _ _ _ _ _ hg, Result.andThen_ok, run_neq_struct, he w, Sem.run_pure]
  rfl⟩
theorem step_loadG {P : Program} {rest : List Oper} {op : Oper} {a : Act} {w : World} {Q : Exit → Act → World → Prop} (hw : Region.wanted op (yielded ops a.tmps) = true) (ty : TypeId) (x : Operand) (ho : op.op = .load ty x)
    (G o : Nat) (hx : a.eval x = .pointer (some ⟨G, o, none⟩)) (cs : List Value) (d : TypeDesc) (hc : w.rangeAt G o cs)
    (hu : P.underlying ty = some d) (hd : d.isRow = true) (hi : (P.info? ty).map (·.size) = some cs.length)
    (h : wpList P ops Q rest (a.put op.dst (.agg cs.toArray)) w) : wpList P ops Q (op :: rest) a w :=
  BigFrame.wpList_want hw fun _ hK => wp_load_mid ty x ho G o hx cs d hc hu hd hi (hK _ _ h)
end
end Go.Proofs.Ythidhjpmjgokgaa
