/-
  Ours: two arrays of nets, two books, two entries held against each other.
-/
import Derived.Test.YthepahhidmihmaaLedCat
import Derived.Test.YthepahhidmihmaaLedNet
import Derived.DeepKeys
import Derived.Laws.StructEq
import Derived.BigGuard
namespace Go.Proofs.Ythepahhidmihmaa
open Go.RowKit LedM

theorem wf64 {x : Int} (h : i64 x) : (Lit.int .i64 x).wf = true := by
  have h1 : IntKind.i64.min = -9223372036854775808 := by decide
  have h2 : IntKind.i64.max = 9223372036854775807 := by decide
  simp only [Lit.wf, h1, h2, Bool.and_eq_true, decide_eq_true_eq]
  exact h
theorem list12 {m : List Int} (hl : m.length = 12) : ∃ x0 x1 x2 x3 x4 x5 x6 x7 x8 x9 x10 x11, m = [x0, x1, x2, x3, x4, x5, x6, x7, x8, x9, x10, x11] := by
  match m, hl with
  | [x0, x1, x2, x3, x4, x5, x6, x7, x8, x9, x10, x11], _ => exact ⟨x0, x1, x2, x3, x4, x5, x6, x7, x8, x9, x10, x11, rfl⟩
def liL (l : List Int) : List Lit := l.map (Lit.int .i64)
theorem liL_inj : ∀ {a b : List Int}, liL a = liL b → a = b
  | [], [], _ => rfl
  | [], _ :: _, h => by simp [liL] at h
  | _ :: _, [], h => by simp [liL] at h
  | x :: a, y :: b, h => by
    simp only [liL, List.map_cons, List.cons.injEq, Lit.int.injEq, true_and] at h
    rw [h.1, liL_inj (a := a) (b := b) h.2]
set_option maxRecDepth 20000 in
theorem key_net (m : List Int) (hm : BkOk m) : (Value.agg (bkL m).toArray).formed Try.prog 23 = true ∧ Try.prog.keyLits 3 23 (bkL m) = some (liL m) := by
  obtain ⟨hl, hw⟩ := hm
  obtain ⟨x0, x1, x2, x3, x4, x5, x6, x7, x8, x9, x10, x11, rfl⟩ := list12 hl
  have f := fun i => wf64 (hw i)
  have a0 : (Lit.int .i64 x0).wf = true := f 0
  have a1 : (Lit.int .i64 x1).wf = true := f 1
  have a2 : (Lit.int .i64 x2).wf = true := f 2
  have a3 : (Lit.int .i64 x3).wf = true := f 3
  have a4 : (Lit.int .i64 x4).wf = true := f 4
  have a5 : (Lit.int .i64 x5).wf = true := f 5
  have a6 : (Lit.int .i64 x6).wf = true := f 6
  have a7 : (Lit.int .i64 x7).wf = true := f 7
  have a8 : (Lit.int .i64 x8).wf = true := f 8
  have a9 : (Lit.int .i64 x9).wf = true := f 9
  have a10 : (Lit.int .i64 x10).wf = true := f 10
  have a11 : (Lit.int .i64 x11).wf = true := f 11
  clear f hw hl
  have c3 : Try.prog.cellsOf 2 = 1 := by kernel_rfl
  have c4 : Try.prog.cellsOf 23 = 12 := by kernel_rfl
  refine ⟨by simp [Value.formed, Try.underlying23, c4, bkL], ?_⟩
  simp [Program.keyLits, Try.underlying2, c3, c4, Try.underlying23, List.range_succ, bkL, liL, a0, a1, a2, a3, a4, a5, a6, a7, a8, a9, a10, a11]
set_option maxRecDepth 20000 in
theorem key_bk (m : List Int) (hm : BkOk m) : (Value.agg (bkL m).toArray).formed Try.prog 25 = true ∧ Try.prog.keyLits 3 25 (bkL m) = some (liL m) := by
  obtain ⟨hl, hw⟩ := hm
  obtain ⟨x0, x1, x2, x3, x4, x5, x6, x7, x8, x9, x10, x11, rfl⟩ := list12 hl
  have f := fun i => wf64 (hw i)
  have a0 : (Lit.int .i64 x0).wf = true := f 0
  have a1 : (Lit.int .i64 x1).wf = true := f 1
  have a2 : (Lit.int .i64 x2).wf = true := f 2
  have a3 : (Lit.int .i64 x3).wf = true := f 3
  have a4 : (Lit.int .i64 x4).wf = true := f 4
  have a5 : (Lit.int .i64 x5).wf = true := f 5
  have a6 : (Lit.int .i64 x6).wf = true := f 6
  have a7 : (Lit.int .i64 x7).wf = true := f 7
  have a8 : (Lit.int .i64 x8).wf = true := f 8
  have a9 : (Lit.int .i64 x9).wf = true := f 9
  have a10 : (Lit.int .i64 x10).wf = true := f 10
  have a11 : (Lit.int .i64 x11).wf = true := f 11
  clear f hw hl
  have c1 : Try.prog.cellsOf 25 = 12 := by kernel_rfl
  have c3 : Try.prog.cellsOf 2 = 1 := by kernel_rfl
  have c4 : Try.prog.cellsOf 23 = 12 := by kernel_rfl
  refine ⟨by simp [Value.formed, Try.underlying25, c1, bkL], ?_⟩
  simp [Program.keyLits, Try.underlying2, c1, c3, c4, Try.underlying23, List.range_succ, Try.underlying25, bkL, liL, a0, a1, a2, a3, a4, a5, a6, a7, a8, a9, a10, a11]
theorem key_ent (e : Ent) (he : EntOk e) : (Value.agg (entL e).toArray).formed Try.prog 30 = true ∧ Try.prog.keyLits 3 30 (entL e) = some (liL [e.d, e.c, e.a]) := by
  obtain ⟨h0, h1, h2⟩ := he
  have a0 := wf64 h0
  have a1 := wf64 h1
  have a2 := wf64 h2
  have c0 : Try.prog.cellsOf 30 = 3 := by kernel_rfl
  have c1 : Try.prog.cellsOf 3 = 1 := by kernel_rfl
  have c3 : Try.prog.cellsOf 2 = 1 := by kernel_rfl
  refine ⟨by simp [Value.formed, Try.underlying30, c0, entL], ?_⟩
  simp [Program.keyLits, Try.underlying3, Try.underlying2, c0, c1, c3, Try.underlying30, entL, liL, a0, a1, a2]
/-- Whether two of a type are equal. -/
def EqT (t : TypeId) (X Y : List Value) (b : Bool) : Prop := ∀ w, (Op.equalIn 10000 t (.agg X.toArray) (.agg Y.toArray)).run Try.prog w = .ok b w
theorem eqt_any {t : TypeId} {X Y : List Value} {lx ly : List Int} (hk : Try.prog.keyTypeAt 3 t = true)
    (fx : (Value.agg X.toArray).formed Try.prog t = true ∧ Try.prog.keyLits 3 t X = some (liL lx)) (fy : (Value.agg Y.toArray).formed Try.prog t = true ∧ Try.prog.keyLits 3 t Y = some (liL ly)) : EqT t X Y (decide (lx = ly)) := fun w => by
  have E := run_equalIn_deep (P := Try.prog) 9997 3 t hk
  obtain ⟨r, h1, h2⟩ := E w 3 3 _ _ _ _ fx.1 fy.1 (by simpa [Value.cells] using fx.2) (by simpa [Value.cells] using fy.2)
  rw [h1]
  have : r = decide (lx = ly) := by
    by_cases e : lx = ly
    · rw [decide_eq_true e]; exact h2.2 (by rw [e])
    · rw [decide_eq_false e]
      cases r
      · rfl
      · exact absurd (liL_inj (h2.1 rfl)) e
  rw [this]
theorem eqt_net {l m : List Int} (hl : BkOk l) (hm : BkOk m) : EqT 23 (bkL l) (bkL m) (decide (l = m)) := eqt_any (by kernel_rfl) (key_net l hl) (key_net m hm)
theorem eqt_bk {l m : List Int} (hl : BkOk l) (hm : BkOk m) : EqT 25 (bkL l) (bkL m) (decide (l = m)) := eqt_any (by kernel_rfl) (key_bk l hl) (key_bk m hm)
theorem eqt_ent {e : Ent} (he : EntOk e) : EqT 30 (entL e) (entL e) true := by
  have := eqt_any (by kernel_rfl) (key_ent e he) (key_ent e he)
  rwa [decide_eq_true rfl] at this
section
variable {ops : Array Oper}
theorem step_neqT {rest : List Oper} {op : Oper} {a : Act} {w : World} {Q : Exit → Act → World → Prop} (hw : Region.wanted op (yielded ops a.tmps) = true) (t t' : TypeId) (x y : Operand) (ho : op.op = .binOp .neq t x y t') (X Y : List Value) (b : Bool) (hx : a.eval x = .agg X.toArray) (hy : a.eval y = .agg Y.toArray) (hg : Try.prog.eqGuardType Try.prog.depth t = false) (he : EqT t X Y b)
    (h : wpList Try.prog ops Q rest (a.put op.dst (.bool (!b))) w) : wpList Try.prog ops Q (op :: rest) a w :=
  BigFrame.wpList_want hw fun _ hK => by
    unfold Oper.wp execOp
    simp only [ho, hx, hy, Sem.run_bind, run_eqGuard_agg w _ _ _ _ _ _ hg, Result.andThen_ok, run_neq_struct, he w]
    exact hK _ _ h
end
end Go.Proofs.Ythepahhidmihmaa
