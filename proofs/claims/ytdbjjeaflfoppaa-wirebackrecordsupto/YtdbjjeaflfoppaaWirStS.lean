/-
  Ours: structs that are asked whether they are equal; the law's samePlan (gen_wst7.py: THE SEAT's OWN NUMBERS).
-/
import Derived.Test.YtdbjjeaflfoppaaWirStE5
import Derived.DeepKeys
import Derived.Laws.StructEq
namespace Go.Proofs.Ytdbjjeaflfoppaa
open Go.RowKit WsM

theorem wf64 {x : Int} (h : -9223372036854775808 ≤ x ∧ x ≤ 9223372036854775807) : (Lit.int .i64 x).wf = true := by
  have h1 : IntKind.i64.min = -9223372036854775808 := by decide
  have h2 : IntKind.i64.max = 9223372036854775807 := by decide
  simp only [Lit.wf, h1, h2, Bool.and_eq_true, decide_eq_true_eq]
  exact h
theorem wfD {l : List Int} (h : I64s l) (i : Nat) : (Lit.int .i64 (l[i]?.getD 0)).wf = true := by
  apply wf64
  by_cases hi : i < l.length
  · rw [List.getElem?_eq_getElem hi]; exact h _ (List.getElem_mem _)
  · rw [List.getElem?_eq_none (by omega)]; decide
/-- What is answered where two structs are asked whether they are equal. -/
def EqR (t : TypeId) (X Y : List Value) (r : Bool) : Prop := ∀ w, (Op.equalIn 10000 t (.agg X.toArray) (.agg Y.toArray)).run Try.prog w = .ok r w
theorem eq_any {t : TypeId} {m D : Nat} (hk : Try.prog.keyTypeAt m t = true) (hm : m ≤ 10000) {X Y : List Value} {lx ly : List Lit} (fx : (Value.agg X.toArray).formed Try.prog t = true) (fy : (Value.agg Y.toArray).formed Try.prog t = true)
    (hx : Try.prog.keyLits D t X = some lx) (hy : Try.prog.keyLits D t Y = some ly) : ∃ r : Bool, EqR t X Y r ∧ (r = true ↔ lx = ly) := by
  have E := run_equalIn_deep (P := Try.prog) (10000 - m) m t hk
  rw [show 10000 - m + m = 10000 from by omega] at E
  by_cases c : lx = ly
  · refine ⟨true, fun w => ?_, by simp [c]⟩
    obtain ⟨r, h1, h2⟩ := E w D D _ _ lx ly fx fy (by simpa [Value.cells] using hx) (by simpa [Value.cells] using hy)
    rw [h1, h2.2 c]
  · refine ⟨false, fun w => ?_, by simp [c]⟩
    obtain ⟨r, h1, h2⟩ := E w D D _ _ lx ly fx fy (by simpa [Value.cells] using hx) (by simpa [Value.cells] using hy)
    have : r = false := by cases r; rfl; exact absurd (h2.1 rfl) c
    rw [h1, this]
section
variable {ops : Array Oper}
theorem yieldsIf_neq {S : World → Prop} {op : Oper} {a : Act} (hw : Region.wanted op (yielded ops a.tmps) = true) (t t' : TypeId) (x y : Operand) (ho : op.op = .binOp .neq t x y t') (X Y : List Value) (hx : a.eval x = .agg X.toArray) (hy : a.eval y = .agg Y.toArray) (hg : Try.prog.eqGuardType Try.prog.depth t = false) {r : Bool} (he : EqR t X Y r) {b : Bool} (hb : (!r) = b) : YieldsIf Try.prog ops S op (.bool b) a := .inl ⟨hw, fun w _ => by
  subst hb
  unfold execOp
  simp only [ho, hx, hy, Sem.run_bind, run_eqGuard_agg w _ _ _ _ _ _ hg, Result.andThen_ok, run_neq_struct, he w, Sem.run_pure]⟩
theorem step_neq {rest : List Oper} {op : Oper} {a : Act} {w : World} {Q : Exit → Act → World → Prop} (hw : Region.wanted op (yielded ops a.tmps) = true) (t t' : TypeId) (x y : Operand) (ho : op.op = .binOp .neq t x y t') (X Y : List Value) (hx : a.eval x = .agg X.toArray) (hy : a.eval y = .agg Y.toArray) (hg : Try.prog.eqGuardType Try.prog.depth t = false) {r : Bool} (he : EqR t X Y r) (b : Bool) (hb : (!r) = b)
    (h : wpList Try.prog ops Q rest (a.put op.dst (.bool b)) w) : wpList Try.prog ops Q (op :: rest) a w :=
  BigFrame.wpList_want hw fun _ hK => by
    subst hb
    unfold Oper.wp execOp
    simp only [ho, hx, hy, Sem.run_bind, run_eqGuard_agg w _ _ _ _ _ _ hg, Result.andThen_ok, run_neq_struct, he w]
    exact hK _ _ h
theorem step_eql {rest : List Oper} {op : Oper} {a : Act} {w : World} {Q : Exit → Act → World → Prop} (hw : Region.wanted op (yielded ops a.tmps) = true) (t t' : TypeId) (x y : Operand) (ho : op.op = .binOp .eql t x y t') (X Y : List Value) (hx : a.eval x = .agg X.toArray) (hy : a.eval y = .agg Y.toArray) (hg : Try.prog.eqGuardType Try.prog.depth t = false) (r : Bool) (he : EqR t X Y r)
    (h : wpList Try.prog ops Q rest (a.put op.dst (.bool r)) w) : wpList Try.prog ops Q (op :: rest) a w :=
  BigFrame.wpList_want hw fun _ hK => by
    unfold Oper.wp execOp
    simp only [ho, hx, hy, Sem.run_bind, run_eqGuard_agg w _ _ _ _ _ _ hg, Result.andThen_ok, run_eql_struct, he w]
    exact hK _ _ h
theorem step_loadG {P : Program} {rest : List Oper} {op : Oper} {a : Act} {w : World} {Q : Exit → Act → World → Prop} (hw : Region.wanted op (yielded ops a.tmps) = true) (ty : TypeId) (x : Operand) (ho : op.op = .load ty x)
    (G o : Nat) (hx : a.eval x = .pointer (some ⟨G, o, none⟩)) (cs : List Value) (d : TypeDesc) (hc : w.rangeAt G o cs)
    (hu : P.underlying ty = some d) (hd : d.isRow = true) (hi : (P.info? ty).map (·.size) = some cs.length)
    (h : wpList P ops Q rest (a.put op.dst (.agg cs.toArray)) w) : wpList P ops Q (op :: rest) a w :=
  BigFrame.wpList_want hw fun _ hK => wp_load_mid ty x ho G o hx cs d hc hu hd hi (hK _ _ h)
theorem at_loadG {P : Program} {rest : List Oper} {a : Act} {w : World} {Q : Exit → Act → World → Prop} {dst : Option Tmp} (ty : TypeId) {t : TypeId} {x : Operand} {pos : String} {af : Array Edge} {gd : Option (Nat × Bool)}
    (h : wpList P ops Q ({ dst := dst, op := .load ty x, type := t, pos := pos, after := af, guard := gd } :: rest) a w) : wpList P ops Q ({ dst := dst, op := .load ty x, type := t, pos := pos, after := af, guard := gd } :: rest) a w := h
theorem at_bin {P : Program} {rest : List Oper} {a : Act} {w : World} {Q : Exit → Act → World → Prop} {dst : Option Tmp} (k : BinOp) (ty : TypeId) {t t' : TypeId} {x y : Operand} {pos : String} {af : Array Edge} {gd : Option (Nat × Bool)}
    (h : wpList P ops Q ({ dst := dst, op := .binOp k ty x y t', type := t, pos := pos, after := af, guard := gd } :: rest) a w) : wpList P ops Q ({ dst := dst, op := .binOp k ty x y t', type := t, pos := pos, after := af, guard := gd } :: rest) a w := h
end
/-- A bool that tells whether p. -/
def AnsB (p : Prop) (e : Ending) : Prop := ∃ b : Bool, e = .returned (.bool b) ∧ (b = true ↔ p)
theorem AnsB.yes {p : Prop} (h : p) : AnsB p (.returned (.bool true)) := ⟨true, rfl, fun _ => h, fun _ => rfl⟩
theorem AnsB.no {p : Prop} (h : ¬ p) : AnsB p (.returned (.bool false)) := ⟨false, rfl, (fun e => by cases e), fun e => absurd e h⟩
namespace WsM
def i6 (l : List Int) : List Value := [.int .i64 (l.getD 0 0), .int .i64 (l.getD 1 0), .int .i64 (l.getD 2 0), .int .i64 (l.getD 3 0), .int .i64 (l.getD 4 0), .int .i64 (l.getD 5 0)]
def i12 (l : List Int) : List Value := [.int .i64 (l.getD 0 0), .int .i64 (l.getD 1 0), .int .i64 (l.getD 2 0), .int .i64 (l.getD 3 0), .int .i64 (l.getD 4 0), .int .i64 (l.getD 5 0), .int .i64 (l.getD 6 0), .int .i64 (l.getD 7 0), .int .i64 (l.getD 8 0), .int .i64 (l.getD 9 0), .int .i64 (l.getD 10 0), .int .i64 (l.getD 11 0)]
def i5 (l : List Int) : List Value := [.int .i64 (l.getD 0 0), .int .i64 (l.getD 1 0), .int .i64 (l.getD 2 0), .int .i64 (l.getD 3 0), .int .i64 (l.getD 4 0)]
def cs15 (s : Int) (z : Bool) (l : List Int) : List Value := [.int .i64 s, .bool z, .int .i64 (l.getD 0 0), .int .i64 (l.getD 1 0), .int .i64 (l.getD 2 0), .int .i64 (l.getD 3 0), .int .i64 (l.getD 4 0), .int .i64 (l.getD 5 0), .int .i64 (l.getD 6 0), .int .i64 (l.getD 7 0), .int .i64 (l.getD 8 0), .int .i64 (l.getD 9 0), .int .i64 (l.getD 10 0), .int .i64 (l.getD 11 0), .int .i64 (l.getD 12 0)]
end WsM
set_option maxRecDepth 20000 in
theorem eqTm (x y : List Int) (lx : x.length = 6) (ly : y.length = 6) (hx : I64s x) (hy : I64s y) : ∃ r : Bool, EqR 55 (i6 x) (i6 y) r ∧ (r = true ↔ x = y) := by
  have c1 : Try.prog.cellsOf 55 = 6 := by kernel_rfl
  have c2 : Try.prog.cellsOf 3 = 1 := by kernel_rfl
  have c3 : Try.prog.cellsOf 2 = 1 := by kernel_rfl
  have kx : Try.prog.keyLits 2 55 (i6 x) = some [.int .i64 (x.getD 0 0), .int .i64 (x.getD 1 0), .int .i64 (x.getD 2 0), .int .i64 (x.getD 3 0), .int .i64 (x.getD 4 0), .int .i64 (x.getD 5 0)] := by
    simp [Program.keyLits, Try.underlying3, Try.underlying2, c1, c2, c3, Try.underlying55, i6, wfD hx]
  have ky : Try.prog.keyLits 2 55 (i6 y) = some [.int .i64 (y.getD 0 0), .int .i64 (y.getD 1 0), .int .i64 (y.getD 2 0), .int .i64 (y.getD 3 0), .int .i64 (y.getD 4 0), .int .i64 (y.getD 5 0)] := by
    simp [Program.keyLits, Try.underlying3, Try.underlying2, c1, c2, c3, Try.underlying55, i6, wfD hy]
  obtain ⟨r, h1, h2⟩ := eq_any (m := 2) (by kernel_rfl) (by decide) (by simp [Value.formed, Try.underlying55, c1, i6]) (by simp [Value.formed, Try.underlying55, c1, i6]) kx ky
  refine ⟨r, h1, h2.trans ?_⟩
  constructor
  · intro h
    rw [← g6 lx, ← g6 ly]
    simpa using h
  · rintro rfl
    rfl
set_option maxRecDepth 20000 in
theorem eqPa (x y : List Int) (lx : x.length = 5) (ly : y.length = 5) (hx : I64s x) (hy : I64s y) : ∃ r : Bool, EqR 63 (i5 x) (i5 y) r ∧ (r = true ↔ x = y) := by
  have c1 : Try.prog.cellsOf 63 = 5 := by kernel_rfl
  have c3 : Try.prog.cellsOf 2 = 1 := by kernel_rfl
  have kx : Try.prog.keyLits 2 63 (i5 x) = some [.int .i64 (x.getD 0 0), .int .i64 (x.getD 1 0), .int .i64 (x.getD 2 0), .int .i64 (x.getD 3 0), .int .i64 (x.getD 4 0)] := by
    simp [Program.keyLits, Try.underlying2, c1, c3, Try.underlying63, i5, wfD hx]
  have ky : Try.prog.keyLits 2 63 (i5 y) = some [.int .i64 (y.getD 0 0), .int .i64 (y.getD 1 0), .int .i64 (y.getD 2 0), .int .i64 (y.getD 3 0), .int .i64 (y.getD 4 0)] := by
    simp [Program.keyLits, Try.underlying2, c1, c3, Try.underlying63, i5, wfD hy]
  obtain ⟨r, h1, h2⟩ := eq_any (m := 2) (by kernel_rfl) (by decide) (by simp [Value.formed, Try.underlying63, c1, i5]) (by simp [Value.formed, Try.underlying63, c1, i5]) kx ky
  refine ⟨r, h1, h2.trans ?_⟩
  constructor
  · intro h
    rw [← g5 lx, ← g5 ly]
    simpa using h
  · rintro rfl
    rfl
set_option maxRecDepth 20000 in
theorem eqBk (x y : List Int) (lx : x.length = 12) (ly : y.length = 12) (hx : I64s x) (hy : I64s y) : ∃ r : Bool, EqR 59 (i12 x) (i12 y) r ∧ (r = true ↔ x = y) := by
  have c1 : Try.prog.cellsOf 59 = 12 := by kernel_rfl
  have c3 : Try.prog.cellsOf 2 = 1 := by kernel_rfl
  have c4 : Try.prog.cellsOf 57 = 12 := by kernel_rfl
  have kx : Try.prog.keyLits 3 59 (i12 x) = some [.int .i64 (x.getD 0 0), .int .i64 (x.getD 1 0), .int .i64 (x.getD 2 0), .int .i64 (x.getD 3 0), .int .i64 (x.getD 4 0), .int .i64 (x.getD 5 0), .int .i64 (x.getD 6 0), .int .i64 (x.getD 7 0), .int .i64 (x.getD 8 0), .int .i64 (x.getD 9 0), .int .i64 (x.getD 10 0), .int .i64 (x.getD 11 0)] := by
    simp [Program.keyLits, Try.underlying2, c1, c3, c4, Try.underlying57, List.range_succ, Try.underlying59, i12, wfD hx]
  have ky : Try.prog.keyLits 3 59 (i12 y) = some [.int .i64 (y.getD 0 0), .int .i64 (y.getD 1 0), .int .i64 (y.getD 2 0), .int .i64 (y.getD 3 0), .int .i64 (y.getD 4 0), .int .i64 (y.getD 5 0), .int .i64 (y.getD 6 0), .int .i64 (y.getD 7 0), .int .i64 (y.getD 8 0), .int .i64 (y.getD 9 0), .int .i64 (y.getD 10 0), .int .i64 (y.getD 11 0)] := by
    simp [Program.keyLits, Try.underlying2, c1, c3, c4, Try.underlying57, List.range_succ, Try.underlying59, i12, wfD hy]
  obtain ⟨r, h1, h2⟩ := eq_any (m := 3) (by kernel_rfl) (by decide) (by simp [Value.formed, Try.underlying59, c1, i12]) (by simp [Value.formed, Try.underlying59, c1, i12]) kx ky
  refine ⟨r, h1, h2.trans ?_⟩
  constructor
  · intro h
    rw [← g12 lx, ← g12 ly]
    simpa using h
  · rintro rfl
    rfl
set_option maxRecDepth 20000 in
theorem eqCs (s s' : Int) (z z' : Bool) (x y : List Int) (hs : I64s [s]) (hs' : I64s [s']) (lx : x.length = 13) (ly : y.length = 13) (hx : I64s x) (hy : I64s y) : ∃ r : Bool, EqR 61 (cs15 s z x) (cs15 s' z' y) r ∧ (r = true ↔ s = s' ∧ z = z' ∧ x = y) := by
  have c1 : Try.prog.cellsOf 61 = 15 := by kernel_rfl
  have c2 : Try.prog.cellsOf 3 = 1 := by kernel_rfl
  have c3 : Try.prog.cellsOf 2 = 1 := by kernel_rfl
  have c4 : Try.prog.cellsOf 4 = 1 := by kernel_rfl
  have w1 := wf64 (hs s (by simp))
  have w2 := wf64 (hs' s' (by simp))
  have kx : Try.prog.keyLits 2 61 (cs15 s z x) = some [.int .i64 s, .bool z, .int .i64 (x.getD 0 0), .int .i64 (x.getD 1 0), .int .i64 (x.getD 2 0), .int .i64 (x.getD 3 0), .int .i64 (x.getD 4 0), .int .i64 (x.getD 5 0), .int .i64 (x.getD 6 0), .int .i64 (x.getD 7 0), .int .i64 (x.getD 8 0), .int .i64 (x.getD 9 0), .int .i64 (x.getD 10 0), .int .i64 (x.getD 11 0), .int .i64 (x.getD 12 0)] := by
    simp [Program.keyLits, Try.underlying3, Try.underlying2, c1, c2, c3, c4, Try.underlying4, Try.underlying61, cs15, wfD hx, w1]
  have ky : Try.prog.keyLits 2 61 (cs15 s' z' y) = some [.int .i64 s', .bool z', .int .i64 (y.getD 0 0), .int .i64 (y.getD 1 0), .int .i64 (y.getD 2 0), .int .i64 (y.getD 3 0), .int .i64 (y.getD 4 0), .int .i64 (y.getD 5 0), .int .i64 (y.getD 6 0), .int .i64 (y.getD 7 0), .int .i64 (y.getD 8 0), .int .i64 (y.getD 9 0), .int .i64 (y.getD 10 0), .int .i64 (y.getD 11 0), .int .i64 (y.getD 12 0)] := by
    simp [Program.keyLits, Try.underlying3, Try.underlying2, c1, c2, c3, c4, Try.underlying4, Try.underlying61, cs15, wfD hy, w2]
  obtain ⟨r, h1, h2⟩ := eq_any (m := 2) (by kernel_rfl) (by decide) (by simp [Value.formed, Try.underlying61, c1, cs15]) (by simp [Value.formed, Try.underlying61, c1, cs15]) kx ky
  refine ⟨r, h1, h2.trans ?_⟩
  constructor
  · intro h
    rw [← g13 lx, ← g13 ly]
    simpa using h
  · rintro ⟨rfl, rfl, rfl⟩
    rfl
set_option maxRecDepth 20000 in
theorem eqIns (x y : Ins) (hx : x.Ok) (hy : y.Ok) : ∃ r : Bool, EqR 108 (insL x) (insL y) r ∧ (r = true ↔ x = y) := by
  have c1 : Try.prog.cellsOf 108 = 4 := by kernel_rfl
  have c2 : Try.prog.cellsOf 3 = 1 := by kernel_rfl
  have c3 : Try.prog.cellsOf 2 = 1 := by kernel_rfl
  have c4 : Try.prog.cellsOf 4 = 1 := by kernel_rfl
  have wx0 := wf64 (hx.f x.due (by simp))
  have wx1 := wf64 (hx.f x.it (by simp))
  have wx2 := wf64 (hx.f x.pr (by simp))
  have wy0 := wf64 (hy.f y.due (by simp))
  have wy1 := wf64 (hy.f y.it (by simp))
  have wy2 := wf64 (hy.f y.pr (by simp))
  have kx : Try.prog.keyLits 2 108 (insL x) = some [.int .i64 x.due, .int .i64 x.it, .int .i64 x.pr, .bool x.mr] := by
    simp [Program.keyLits, Try.underlying3, Try.underlying2, c1, c2, c3, c4, Try.underlying4, Try.underlying108, insL, wx0, wx1, wx2]
  have ky : Try.prog.keyLits 2 108 (insL y) = some [.int .i64 y.due, .int .i64 y.it, .int .i64 y.pr, .bool y.mr] := by
    simp [Program.keyLits, Try.underlying3, Try.underlying2, c1, c2, c3, c4, Try.underlying4, Try.underlying108, insL, wy0, wy1, wy2]
  obtain ⟨r, h1, h2⟩ := eq_any (m := 2) (by kernel_rfl) (by decide) (by simp [Value.formed, Try.underlying108, c1, insL]) (by simp [Value.formed, Try.underlying108, c1, insL]) kx ky
  refine ⟨r, h1, h2.trans ?_⟩
  constructor
  · intro h
    cases x; cases y; simpa using h
  · rintro rfl
    rfl
set_option maxRecDepth 20000 in
theorem eqNt (x y : Nt) (hx : x.Ok) (hy : y.Ok) : ∃ r : Bool, EqR 28 (ntL x) (ntL y) r ∧ (r = true ↔ x = y) := by
  have c1 : Try.prog.cellsOf 28 = 6 := by kernel_rfl
  have c2 : Try.prog.cellsOf 3 = 1 := by kernel_rfl
  have c3 : Try.prog.cellsOf 2 = 1 := by kernel_rfl
  have c4 : Try.prog.cellsOf 4 = 1 := by kernel_rfl
  have kx : Try.prog.keyLits 2 28 (ntL x) = some [.int .i64 (x.f.getD 0 0), .int .i64 (x.f.getD 1 0), .int .i64 (x.f.getD 2 0), .int .i64 (x.f.getD 3 0), .int .i64 (x.f.getD 4 0), .bool x.ak] := by
    simp [Program.keyLits, Try.underlying3, Try.underlying2, c1, c2, c3, c4, Try.underlying4, Try.underlying28, ntL, wfD hx.f]
  have ky : Try.prog.keyLits 2 28 (ntL y) = some [.int .i64 (y.f.getD 0 0), .int .i64 (y.f.getD 1 0), .int .i64 (y.f.getD 2 0), .int .i64 (y.f.getD 3 0), .int .i64 (y.f.getD 4 0), .bool y.ak] := by
    simp [Program.keyLits, Try.underlying3, Try.underlying2, c1, c2, c3, c4, Try.underlying4, Try.underlying28, ntL, wfD hy.f]
  obtain ⟨r, h1, h2⟩ := eq_any (m := 2) (by kernel_rfl) (by decide) (by simp [Value.formed, Try.underlying28, c1, ntL]) (by simp [Value.formed, Try.underlying28, c1, ntL]) kx ky
  refine ⟨r, h1, h2.trans ?_⟩
  constructor
  · intro h
    have e : x.f = y.f ∧ x.ak = y.ak := by
      rw [← g5 hx.fL, ← g5 hy.fL]
      simpa [and_assoc] using h
    cases x; cases y; simp only at e; rw [e.1, e.2]
  · rintro rfl
    rfl
set_option maxRecDepth 20000 in
set_option maxHeartbeats 2000000 in
theorem samePlan_at (xs ys : List Ins) (hxo : ∀ i ∈ xs, i.Ok) (hyo : ∀ i ∈ ys, i.Ok) (va vb : Value) (w : World) (hl : xs.length ≤ 1000000000000) (h : RdS 4 w va (xs.map insL)) (h' : RdS 4 w vb (ys.map insL)) :
    Calls Try.prog 63 #[va, vb] w fun e w' => AnsB (xs = ys) e ∧ ∃ n, w' = w.drewN n := by
  have hu := Try.underlying108
  have hgd : Try.prog.eqGuardType Try.prog.depth 108 = false := by kernel_rfl
  obtain ⟨ao, cap, rfl, hc, hn, H⟩ := h
  obtain ⟨ao', cap', rfl, hc', hn', H'⟩ := h'
  simp only [List.length_map] at *
  obtain ⟨L, hL⟩ : ∃ L, xs.length = L := ⟨_, rfl⟩
  obtain ⟨L', hL'⟩ : ∃ L, ys.length = L := ⟨_, rfl⟩
  have HH : Hid (∀ i (h : i < L), ∃ g o, ao = some ⟨g, o, none⟩ ∧ w.rangeAt g (o + i * 4) (insL (xs.getD i ⟨0, 0, 0, false⟩))) := fun i hi => by
    obtain ⟨g, o, e1, _, e2⟩ := H i (by omega)
    rw [getD_map (d := ⟨0, 0, 0, false⟩) (by omega)] at e2
    exact ⟨g, o, e1, e2⟩
  have HH' : Hid (∀ i (h : i < L'), ∃ g o, ao' = some ⟨g, o, none⟩ ∧ w.rangeAt g (o + i * 4) (insL (ys.getD i ⟨0, 0, 0, false⟩))) := fun i hi => by
    obtain ⟨g, o, e1, _, e2⟩ := H' i (by omega)
    rw [getD_map (d := ⟨0, 0, 0, false⟩) (by omega)] at e2
    exact ⟨g, o, e1, e2⟩
  have HQ : Hid (∀ i, i < L → i < L' → ∃ r : Bool, EqR 108 (insL (xs.getD i ⟨0, 0, 0, false⟩)) (insL (ys.getD i ⟨0, 0, 0, false⟩)) r ∧ (r = true ↔ xs.getD i ⟨0, 0, 0, false⟩ = ys.getD i ⟨0, 0, 0, false⟩)) := fun i h1 h2 => eqIns _ _ (hxo _ (getD_mem (by omega))) (hyo _ (getD_mem (by omega)))
  have HL : Hid (xs.length = L) := hL
  have HL' : Hid (ys.length = L') := hL'
  rw [hL] at hl
  rw [hL, hL']
  clear H H' hL hL' hc hc' hn hn' hxo hyo
  by_cases hne : (L : Int) = (L' : Int)
  · obtain rfl : L = L' := by omega
    have e0 : ((L : Int) != (L : Int)) = false := by simp
    clear hne
    go_enter Try.func63, Try.ntmps63
    go_wp2_with fail
    go_loopw [5] (fun vk wr => ∃ (m k : Nat), wr = w.drewN m ∧ vk = .int .i64 (k : Int) ∧ k ≤ L ∧ Hid (∀ j, j < k → xs.getD j ⟨0, 0, 0, false⟩ = ys.getD j ⟨0, 0, 0, false⟩)) (fun vk _ => L - (intOf vk).toNat)
    case atStart => exact ⟨0, 0, rfl, rfl, by omega, fun j hj => by omega⟩
    case round =>
      obtain ⟨m, k, rfl, rfl, hk, EQ⟩ := hrel
      by_cases hlt : (k : Int) < (L : Int)
      · obtain ⟨g, o, rfl, rg⟩ := HH.out k (by omega)
        obtain ⟨g', o', rfl, rg'⟩ := HH'.out k (by omega)
        obtain ⟨r, er, ir⟩ := HQ.out k (by omega) (by omega)
        have HX : Hid ((Try.prog.info? 108).map (·.size) = some (insL (xs.getD k ⟨0, 0, 0, false⟩)).length) := szIns rfl
        have HY : Hid ((Try.prog.info? 108).map (·.size) = some (insL (ys.getD k ⟨0, 0, 0, false⟩)).length) := szIns rfl
        have RG : Hid (w.rangeAt g (o + k * 4) (insL (xs.getD k ⟨0, 0, 0, false⟩))) := rg
        have RG' : Hid (w.rangeAt g' (o' + k * 4) (insL (ys.getD k ⟨0, 0, 0, false⟩))) := rg'
        have EE : Hid (EqR 108 (insL (xs.getD k ⟨0, 0, 0, false⟩)) (insL (ys.getD k ⟨0, 0, 0, false⟩)) r) := er
        have IR : Hid (r = true ↔ xs.getD k ⟨0, 0, 0, false⟩ = ys.getD k ⟨0, 0, 0, false⟩) := ir
        clear rg rg' er ir HH HH' HQ
        generalize insL (xs.getD k ⟨0, 0, 0, false⟩) = X at *
        generalize insL (ys.getD k ⟨0, 0, 0, false⟩) = Y at *
        cases r with
        | true =>
          go_upto_region 6 with fail
          refine wp_region_held_drew (S := fun w' => w'.rangeAt g (o + k * 4) X ∧ w'.rangeAt g' (o' + k * 4) Y) (by kernel_rfl) ⟨RG.out, RG'.out⟩ (fun hH => ?_)
          refine wpAnyH_take (i := 0) (oi := { dst := some 17, op := Op.move (Operand.tmp 0), type := 56, pos := "law.go:147", after := #[], guard := none }) (v := .slice (some ⟨g, o, none⟩) L cap) rfl (by kernel_rfl) (by kernel_rfl) (by kernel_rfl) (fun _ _ _ h => h) (Or.inl ⟨by rfl, fun w' h => by go_simp⟩) hH ?_
          try simp only [Act.put, List.setIfInBounds_toArray, List.set_cons_zero, List.set_cons_succ]
          refine wpAnyH_take (i := 1) (oi := { dst := some 18, op := Op.move (Operand.tmp 5), type := 3, pos := "law.go:147", after := #[], guard := none }) (v := .int .i64 (k : Int)) rfl (by kernel_rfl) (by kernel_rfl) (by kernel_rfl) (fun _ _ _ h => h) (Or.inl ⟨by rfl, fun w' h => by go_simp⟩) hH ?_
          try simp only [Act.put, List.setIfInBounds_toArray, List.set_cons_zero, List.set_cons_succ]
          refine wpAnyH_take (i := 2) (oi := { dst := some 19, op := Op.indexAddr 56 (Operand.tmp 17) (Operand.tmp 18), type := 0, pos := "law.go:147", after := #[{ on := 0, ground := Ground.data }, { on := 1, ground := Ground.data }], guard := none }) (v := .pointer (some ⟨g, o + k * 4, none⟩)) rfl (by kernel_rfl) (by kernel_rfl) (by kernel_rfl) (fun _ _ _ h => h) (Or.inl ⟨by rfl, fun w' h => by go_simp⟩) hH ?_
          try simp only [Act.put, List.setIfInBounds_toArray, List.set_cons_zero, List.set_cons_succ]
          refine wpAnyH_take (i := 3) (oi := { dst := some 20, op := Op.load 108 (Operand.tmp 19), type := 108, pos := "law.go:147", after := #[{ on := 2, ground := Ground.data }], guard := none }) (v := .agg (X).toArray) rfl (by kernel_rfl) (by kernel_rfl) (by kernel_rfl) (fun _ _ _ h => h) (yieldsIf_load_mid (by rfl) _ _ rfl g (o + k * 4) rfl (X) _ (fun w' h => h.1) hu rfl HX.out) hH ?_
          try simp only [Act.put, List.setIfInBounds_toArray, List.set_cons_zero, List.set_cons_succ]
          refine wpAnyH_take (i := 4) (oi := { dst := some 21, op := Op.move (Operand.tmp 1), type := 56, pos := "law.go:147", after := #[], guard := none }) (v := .slice (some ⟨g', o', none⟩) L cap') rfl (by kernel_rfl) (by kernel_rfl) (by kernel_rfl) (fun _ _ _ h => h) (Or.inl ⟨by rfl, fun w' h => by go_simp⟩) hH ?_
          try simp only [Act.put, List.setIfInBounds_toArray, List.set_cons_zero, List.set_cons_succ]
          refine wpAnyH_take (i := 5) (oi := { dst := some 22, op := Op.move (Operand.tmp 5), type := 3, pos := "law.go:147", after := #[], guard := none }) (v := .int .i64 (k : Int)) rfl (by kernel_rfl) (by kernel_rfl) (by kernel_rfl) (fun _ _ _ h => h) (Or.inl ⟨by rfl, fun w' h => by go_simp⟩) hH ?_
          try simp only [Act.put, List.setIfInBounds_toArray, List.set_cons_zero, List.set_cons_succ]
          refine wpAnyH_take (i := 6) (oi := { dst := some 23, op := Op.indexAddr 56 (Operand.tmp 21) (Operand.tmp 22), type := 0, pos := "law.go:147", after := #[{ on := 4, ground := Ground.data }, { on := 5, ground := Ground.data }], guard := none }) (v := .pointer (some ⟨g', o' + k * 4, none⟩)) rfl (by kernel_rfl) (by kernel_rfl) (by kernel_rfl) (fun _ _ _ h => h) (Or.inl ⟨by rfl, fun w' h => by go_simp⟩) hH ?_
          try simp only [Act.put, List.setIfInBounds_toArray, List.set_cons_zero, List.set_cons_succ]
          refine wpAnyH_take (i := 7) (oi := { dst := some 24, op := Op.load 108 (Operand.tmp 23), type := 108, pos := "law.go:147", after := #[{ on := 6, ground := Ground.data }], guard := none }) (v := .agg (Y).toArray) rfl (by kernel_rfl) (by kernel_rfl) (by kernel_rfl) (fun _ _ _ h => h) (yieldsIf_load_mid (by rfl) _ _ rfl g' (o' + k * 4) rfl (Y) _ (fun w' h => h.2) hu rfl HY.out) hH ?_
          try simp only [Act.put, List.setIfInBounds_toArray, List.set_cons_zero, List.set_cons_succ]
          refine wpAnyH_take (i := 8) (oi := { dst := some 25, op := Op.binOp BinOp.neq 108 (Operand.tmp 20) (Operand.tmp 24) 108, type := 4, pos := "law.go:147", after := #[{ on := 3, ground := Ground.data }, { on := 7, ground := Ground.data }], guard := none }) (v := .bool false) rfl (by kernel_rfl) (by kernel_rfl) (by kernel_rfl) (fun _ _ _ h => h) (yieldsIf_neq (by rfl) 108 108 _ _ rfl X Y rfl rfl hgd EE.out rfl) hH ?_
          try simp only [Act.put, List.setIfInBounds_toArray, List.set_cons_zero, List.set_cons_succ]
          refine wpAnyH_done (by kernel_rfl) ?_ _
          clear hH
          go_wp2_with fail
          go_roundw
          case rel =>
            refine ⟨m + 1, k + 1, by first | rfl | simp, by go_num, by omega, fun j hj => ?_⟩
            by_cases e : j = k
            · subst e; exact IR.out.1 rfl
            · exact EQ.out j (by omega)
          case measure => simp [intOf]; omega
        | false =>
          go_upto_region 6 with fail
          refine wp_region_held_drew (S := fun w' => w'.rangeAt g (o + k * 4) X ∧ w'.rangeAt g' (o' + k * 4) Y) (by kernel_rfl) ⟨RG.out, RG'.out⟩ (fun hH => ?_)
          refine wpAnyH_take (i := 0) (oi := { dst := some 17, op := Op.move (Operand.tmp 0), type := 56, pos := "law.go:147", after := #[], guard := none }) (v := .slice (some ⟨g, o, none⟩) L cap) rfl (by kernel_rfl) (by kernel_rfl) (by kernel_rfl) (fun _ _ _ h => h) (Or.inl ⟨by rfl, fun w' h => by go_simp⟩) hH ?_
          try simp only [Act.put, List.setIfInBounds_toArray, List.set_cons_zero, List.set_cons_succ]
          refine wpAnyH_take (i := 1) (oi := { dst := some 18, op := Op.move (Operand.tmp 5), type := 3, pos := "law.go:147", after := #[], guard := none }) (v := .int .i64 (k : Int)) rfl (by kernel_rfl) (by kernel_rfl) (by kernel_rfl) (fun _ _ _ h => h) (Or.inl ⟨by rfl, fun w' h => by go_simp⟩) hH ?_
          try simp only [Act.put, List.setIfInBounds_toArray, List.set_cons_zero, List.set_cons_succ]
          refine wpAnyH_take (i := 2) (oi := { dst := some 19, op := Op.indexAddr 56 (Operand.tmp 17) (Operand.tmp 18), type := 0, pos := "law.go:147", after := #[{ on := 0, ground := Ground.data }, { on := 1, ground := Ground.data }], guard := none }) (v := .pointer (some ⟨g, o + k * 4, none⟩)) rfl (by kernel_rfl) (by kernel_rfl) (by kernel_rfl) (fun _ _ _ h => h) (Or.inl ⟨by rfl, fun w' h => by go_simp⟩) hH ?_
          try simp only [Act.put, List.setIfInBounds_toArray, List.set_cons_zero, List.set_cons_succ]
          refine wpAnyH_take (i := 3) (oi := { dst := some 20, op := Op.load 108 (Operand.tmp 19), type := 108, pos := "law.go:147", after := #[{ on := 2, ground := Ground.data }], guard := none }) (v := .agg (X).toArray) rfl (by kernel_rfl) (by kernel_rfl) (by kernel_rfl) (fun _ _ _ h => h) (yieldsIf_load_mid (by rfl) _ _ rfl g (o + k * 4) rfl (X) _ (fun w' h => h.1) hu rfl HX.out) hH ?_
          try simp only [Act.put, List.setIfInBounds_toArray, List.set_cons_zero, List.set_cons_succ]
          refine wpAnyH_take (i := 4) (oi := { dst := some 21, op := Op.move (Operand.tmp 1), type := 56, pos := "law.go:147", after := #[], guard := none }) (v := .slice (some ⟨g', o', none⟩) L cap') rfl (by kernel_rfl) (by kernel_rfl) (by kernel_rfl) (fun _ _ _ h => h) (Or.inl ⟨by rfl, fun w' h => by go_simp⟩) hH ?_
          try simp only [Act.put, List.setIfInBounds_toArray, List.set_cons_zero, List.set_cons_succ]
          refine wpAnyH_take (i := 5) (oi := { dst := some 22, op := Op.move (Operand.tmp 5), type := 3, pos := "law.go:147", after := #[], guard := none }) (v := .int .i64 (k : Int)) rfl (by kernel_rfl) (by kernel_rfl) (by kernel_rfl) (fun _ _ _ h => h) (Or.inl ⟨by rfl, fun w' h => by go_simp⟩) hH ?_
          try simp only [Act.put, List.setIfInBounds_toArray, List.set_cons_zero, List.set_cons_succ]
          refine wpAnyH_take (i := 6) (oi := { dst := some 23, op := Op.indexAddr 56 (Operand.tmp 21) (Operand.tmp 22), type := 0, pos := "law.go:147", after := #[{ on := 4, ground := Ground.data }, { on := 5, ground := Ground.data }], guard := none }) (v := .pointer (some ⟨g', o' + k * 4, none⟩)) rfl (by kernel_rfl) (by kernel_rfl) (by kernel_rfl) (fun _ _ _ h => h) (Or.inl ⟨by rfl, fun w' h => by go_simp⟩) hH ?_
          try simp only [Act.put, List.setIfInBounds_toArray, List.set_cons_zero, List.set_cons_succ]
          refine wpAnyH_take (i := 7) (oi := { dst := some 24, op := Op.load 108 (Operand.tmp 23), type := 108, pos := "law.go:147", after := #[{ on := 6, ground := Ground.data }], guard := none }) (v := .agg (Y).toArray) rfl (by kernel_rfl) (by kernel_rfl) (by kernel_rfl) (fun _ _ _ h => h) (yieldsIf_load_mid (by rfl) _ _ rfl g' (o' + k * 4) rfl (Y) _ (fun w' h => h.2) hu rfl HY.out) hH ?_
          try simp only [Act.put, List.setIfInBounds_toArray, List.set_cons_zero, List.set_cons_succ]
          refine wpAnyH_take (i := 8) (oi := { dst := some 25, op := Op.binOp BinOp.neq 108 (Operand.tmp 20) (Operand.tmp 24) 108, type := 4, pos := "law.go:147", after := #[{ on := 3, ground := Ground.data }, { on := 7, ground := Ground.data }], guard := none }) (v := .bool true) rfl (by kernel_rfl) (by kernel_rfl) (by kernel_rfl) (fun _ _ _ h => h) (yieldsIf_neq (by rfl) 108 108 _ _ rfl X Y rfl rfl hgd EE.out rfl) hH ?_
          try simp only [Act.put, List.setIfInBounds_toArray, List.set_cons_zero, List.set_cons_succ]
          refine wpAnyH_done (by kernel_rfl) ?_ _
          clear hH
          go_wp2_with fail
          go_ret
          refine ⟨AnsB.no fun e => ?_, m + 1, by first | rfl | simp⟩
          have := IR.out.2 (by rw [e])
          cases this
      · obtain rfl : k = L := by omega
        go_wp2_with fail
        go_ret
        refine ⟨AnsB.yes ?_, m, rfl⟩
        apply List.ext_getElem (by rw [HL.out, HL'.out])
        intro i h1 h2
        have := EQ.out i (by have := HL.out; omega)
        rwa [getD_at h1, getD_at h2] at this
  · have e0 : ((L : Int) != (L' : Int)) = true := by simpa using hne
    go_enter Try.func63, Try.ntmps63
    go_wp2_with fail
    go_ret
    exact ⟨AnsB.no fun e => absurd (by rw [← HL.out, ← HL'.out, e]) hne, 0, rfl⟩
end Go.Proofs.Ytdbjjeaflfoppaa
