/-
  Ours: the statements' sameLines, at texts that are the same.
-/
import Derived.Test.YtmennknknecgjaaDoorStRow
import Derived.DeepKeys
import Derived.Laws.StructEq
import Derived.BigGuard
import Derived.Deep.RegionHeld3
import Derived.Deep.MidRow
import Derived.Deep.QuietTactic
import Derived.BigQuiet
import Derived.Test.YtmennknknecgjaaDoorStRLns
namespace Go.Proofs.YtmennknknecgjaaDoor
open Go.RowKit LedM StM

theorem wf64 {x : Int} (h : i64 x) : (Lit.int .i64 x).wf = true := by
  have h1 : IntKind.i64.min = -9223372036854775808 := by decide
  have h2 : IntKind.i64.max = 9223372036854775807 := by decide
  simp only [Lit.wf, h1, h2, Bool.and_eq_true, decide_eq_true_eq]
  exact h
/-- Two structs that are equal. -/
def EqS (t : TypeId) (X : List Value) : Prop := ∀ w, (Op.equalIn 10000 t (.agg X.toArray) (.agg X.toArray)).run Tryd.prog w = .ok true w
theorem eqs_any {t : TypeId} {m D : Nat} (hk : Tryd.prog.keyTypeAt m t = true) (hm : m ≤ 10000) {X : List Value} {lx : List Lit} (fx : (Value.agg X.toArray).formed Tryd.prog t = true)
    (hx : Tryd.prog.keyLits D t X = some lx) : EqS t X := fun w => by
  have E := run_equalIn_deep (P := Tryd.prog) (10000 - m) m t hk
  rw [show 10000 - m + m = 10000 from by omega] at E
  obtain ⟨r, h1, h2⟩ := E w D D _ _ lx lx fx fx (by simpa [Value.cells] using hx) (by simpa [Value.cells] using hx)
  rw [h1, h2.2 rfl]
set_option maxRecDepth 20000 in
theorem eqs_mo (m : List Int) (hm : MoOk m) : EqS 29 (bkL m) := by
  obtain ⟨hl, hw⟩ := hm
  obtain ⟨d, k, x0, x1, x2, x3, x4, x5, x6, x7, x8, x9, x10, x11, rfl⟩ := list14 hl
  have f := fun i => wf64 (hw i)
  have g0 : (Lit.int .i64 d).wf = true := f 0
  have g1 : (Lit.int .i64 k).wf = true := f 1
  have a0 : (Lit.int .i64 x0).wf = true := f 2
  have a1 : (Lit.int .i64 x1).wf = true := f 3
  have a2 : (Lit.int .i64 x2).wf = true := f 4
  have a3 : (Lit.int .i64 x3).wf = true := f 5
  have a4 : (Lit.int .i64 x4).wf = true := f 6
  have a5 : (Lit.int .i64 x5).wf = true := f 7
  have a6 : (Lit.int .i64 x6).wf = true := f 8
  have a7 : (Lit.int .i64 x7).wf = true := f 9
  have a8 : (Lit.int .i64 x8).wf = true := f 10
  have a9 : (Lit.int .i64 x9).wf = true := f 11
  have a10 : (Lit.int .i64 x10).wf = true := f 12
  have a11 : (Lit.int .i64 x11).wf = true := f 13
  clear f hw hl
  have c0 : Tryd.prog.cellsOf 29 = 14 := by kernel_rfl
  have c1 : Tryd.prog.cellsOf 27 = 12 := by kernel_rfl
  have c2 : Tryd.prog.cellsOf 3 = 1 := by kernel_rfl
  have c3 : Tryd.prog.cellsOf 2 = 1 := by kernel_rfl
  have c4 : Tryd.prog.cellsOf 25 = 12 := by kernel_rfl
  refine eqs_any (m := 4) (D := 4) (lx := [.int .i64 d, .int .i64 k, .int .i64 x0, .int .i64 x1, .int .i64 x2, .int .i64 x3, .int .i64 x4, .int .i64 x5, .int .i64 x6, .int .i64 x7, .int .i64 x8, .int .i64 x9, .int .i64 x10, .int .i64 x11]) (by kernel_rfl) (by decide) (by simp [Value.formed, Tryd.underlying29, c0, bkL]) ?_
  simp [Program.keyLits, Tryd.underlying3, Tryd.underlying2, c0, c1, c2, c3, c4, Tryd.underlying25, List.range_succ, Tryd.underlying27, Tryd.underlying29, bkL, g0, g1, a0, a1, a2, a3, a4, a5, a6, a7, a8, a9, a10, a11]
set_option maxRecDepth 20000 in
theorem eqs_bk (m : List Int) (hm : BkOk m) : EqS 27 (bkL m) := by
  obtain ⟨hl, hw⟩ := hm
  have hx : ∃ x0 x1 x2 x3 x4 x5 x6 x7 x8 x9 x10 x11, m = [x0, x1, x2, x3, x4, x5, x6, x7, x8, x9, x10, x11] := by
    match m, hl with
    | [x0, x1, x2, x3, x4, x5, x6, x7, x8, x9, x10, x11], _ => exact ⟨x0, x1, x2, x3, x4, x5, x6, x7, x8, x9, x10, x11, rfl⟩
  obtain ⟨x0, x1, x2, x3, x4, x5, x6, x7, x8, x9, x10, x11, rfl⟩ := hx
  have f := fun i => wf64 (hw i)
  have a0 : (Lit.int .i64 x0).wf = true := f 0
  have a1 : (Lit.int .i64 x1).wf = true := f 1
  have a2 : (Lit.int .i64 x2).wf = true := f 2
  have a3 : (Lit.int .i64 x3).wf = true := f 3
  have a4 : (Lit.int .i64 x4).wf = true := f 4
  have a5 : (Lit.int .i64 x5).wf = true := f 5
  have a6 : (Lit.int .i64 x6).wf = true := f 6
  have a7 : (Lit.int .i64 x7).wf = true := f 7
  have a8 : (Lit.int .i64 x8).wf = true := f 8
  have a9 : (Lit.int .i64 x9).wf = true := f 9
  have a10 : (Lit.int .i64 x10).wf = true := f 10
  have a11 : (Lit.int .i64 x11).wf = true := f 11
  clear f hw hl
  have c1 : Tryd.prog.cellsOf 27 = 12 := by kernel_rfl
  have c3 : Tryd.prog.cellsOf 2 = 1 := by kernel_rfl
  have c4 : Tryd.prog.cellsOf 25 = 12 := by kernel_rfl
  refine eqs_any (m := 3) (D := 3) (lx := [.int .i64 x0, .int .i64 x1, .int .i64 x2, .int .i64 x3, .int .i64 x4, .int .i64 x5, .int .i64 x6, .int .i64 x7, .int .i64 x8, .int .i64 x9, .int .i64 x10, .int .i64 x11]) (by kernel_rfl) (by decide) (by simp [Value.formed, Tryd.underlying27, c1, bkL]) ?_
  simp [Program.keyLits, Tryd.underlying2, c1, c3, c4, Tryd.underlying25, List.range_succ, Tryd.underlying27, bkL, a0, a1, a2, a3, a4, a5, a6, a7, a8, a9, a10, a11]
section
variable {ops : Array Oper}
theorem step_neqS {rest : List Oper} {op : Oper} {a : Act} {w : World} {Q : Exit → Act → World → Prop} (hw : Region.wanted op (yielded ops a.tmps) = true) (t t' : TypeId) (x y : Operand) (ho : op.op = .binOp .neq t x y t') (X : List Value) (hx : a.eval x = .agg X.toArray) (hy : a.eval y = .agg X.toArray) (hg : Tryd.prog.eqGuardType Tryd.prog.depth t = false) (he : EqS t X)
    (h : wpList Tryd.prog ops Q rest (a.put op.dst (.bool false)) w) : wpList Tryd.prog ops Q (op :: rest) a w :=
  BigFrame.wpList_want hw fun _ hK => by
    unfold Oper.wp execOp
    simp only [ho, hx, hy, Sem.run_bind, run_eqGuard_agg w _ _ _ _ _ _ hg, Result.andThen_ok, run_neq_struct, he w]
    exact hK _ _ h
theorem step_eqlS {rest : List Oper} {op : Oper} {a : Act} {w : World} {Q : Exit → Act → World → Prop} (hw : Region.wanted op (yielded ops a.tmps) = true) (t t' : TypeId) (x y : Operand) (ho : op.op = .binOp .eql t x y t') (X : List Value) (hx : a.eval x = .agg X.toArray) (hy : a.eval y = .agg X.toArray) (hg : Tryd.prog.eqGuardType Tryd.prog.depth t = false) (he : EqS t X)
    (h : wpList Tryd.prog ops Q rest (a.put op.dst (.bool true)) w) : wpList Tryd.prog ops Q (op :: rest) a w :=
  BigFrame.wpList_want hw fun _ hK => by
    unfold Oper.wp execOp
    simp only [ho, hx, hy, Sem.run_bind, run_eqGuard_agg w _ _ _ _ _ _ hg, Result.andThen_ok, run_eql_struct, he w]
    exact hK _ _ h
theorem yieldsIf_neqS {S : World → Prop} {op : Oper} {a : Act} (hw : Region.wanted op (yielded ops a.tmps) = true) (t t' : TypeId) (x y : Operand) (ho : op.op = .binOp .neq t x y t') (X : List Value) (hx : a.eval x = .agg X.toArray) (hy : a.eval y = .agg X.toArray)
    (hg : Tryd.prog.eqGuardType Tryd.prog.depth t = false) (he : EqS t X) : YieldsIf Tryd.prog ops S op (.bool false) a := .inl ⟨hw, fun w _ => by
  unfold execOp
  simp only [ho, hx, hy, Sem.run_bind, run_eqGuard_agg w _ _ _ _ _ _ hg, Result.andThen_ok, run_neq_struct, he w, Sem.run_pure]
  rfl⟩
theorem step_loadG {P : Program} {rest : List Oper} {op : Oper} {a : Act} {w : World} {Q : Exit → Act → World → Prop} (hw : Region.wanted op (yielded ops a.tmps) = true) (ty : TypeId) (x : Operand) (ho : op.op = .load ty x)
    (G o : Nat) (hx : a.eval x = .pointer (some ⟨G, o, none⟩)) (cs : List Value) (d : TypeDesc) (hc : w.rangeAt G o cs)
    (hu : P.underlying ty = some d) (hd : d.isRow = true) (hi : (P.info? ty).map (·.size) = some cs.length)
    (h : wpList P ops Q rest (a.put op.dst (.agg cs.toArray)) w) : wpList P ops Q (op :: rest) a w :=
  BigFrame.wpList_want hw fun _ hK => wp_load_mid ty x ho G o hx cs d hc hu hd hi (hK _ _ h)
end
end Go.Proofs.YtmennknknecgjaaDoor

namespace Go.Proofs.YtmennknknecgjaaDoor
open Go.RowKit LedM StM

theorem quiet_loadG {P : Program} {C : World → Prop} {K : Act → Prop} {o : Oper} {a : Act} (ty : TypeId) (x : Operand) (ho : o.op = .load ty x) (G off : Nat) (hx : a.eval x = .pointer (some ⟨G, off, none⟩)) (cs : List Value) (d : TypeDesc)
    (hc : ∀ w, C w → w.rangeAt G off cs) (hu : P.underlying ty = some d) (hd : d.isRow = true) (hi : (P.info? ty).map (·.size) = some cs.length) (hk : K (a.put o.dst (.agg cs.toArray))) : o.quiet P a C K :=
  ⟨_, fun w hw => by
    unfold Oper.quietAt execOp
    simp only [ho, hx, Instr.loadAt, Instr.sureAddr, Sem.run_bind, Sem.run_pure, Result.andThen_ok, run_loadVar_mid w G off ty cs d (hc w hw) hu hd hi]
    exact ⟨rfl, rfl⟩, hk⟩
theorem quiet_neqS {C : World → Prop} {K : Act → Prop} {o : Oper} {a : Act} (t t' : TypeId) (x y : Operand) (ho : o.op = .binOp .neq t x y t') (X : List Value) (hx : a.eval x = .agg X.toArray) (hy : a.eval y = .agg X.toArray)
    (hg : Tryd.prog.eqGuardType Tryd.prog.depth t = false) (he : EqS t X) (hk : K (a.put o.dst (.bool false))) : o.quiet Tryd.prog a C K :=
  ⟨_, fun w _ => by
    unfold Oper.quietAt execOp
    simp only [ho, hx, hy, Sem.run_bind, run_eqGuard_agg w _ _ _ _ _ _ hg, Result.andThen_ok, run_neq_struct, he w, Sem.run_pure]
    exact ⟨rfl, rfl⟩, hk⟩
end Go.Proofs.YtmennknknecgjaaDoor

namespace Go.Proofs.YtmennknknecgjaaDoor
open Go.RowKit LedM StM

set_option maxRecDepth 20000 in
set_option maxHeartbeats 4000000 in
theorem sameM_yes (ms : List (List Int)) (va vb : Value) (w : World) (hl : ms.length ≤ 1000000000) (ok : ∀ m ∈ ms, MoOk m) (h : RdMo w va ms) (h' : RdMo w vb ms) : Calls Tryd.prog 7 #[va, vb] w fun e w' => e = .returned (.bool true) ∧ ∃ n, w' = w.drewN n := by
  obtain ⟨ao, cap, rfl, hc, hn, H⟩ := h
  obtain ⟨ao', cap', rfl, hc', hn', H'⟩ := h'
  obtain ⟨L, hL⟩ : ∃ L, ms.length = L := ⟨_, rfl⟩
  have GI : Hid (∀ i, i < L → ∃ m, MoOk m ∧ ∃ g o g' o', ao = some ⟨g, o, none⟩ ∧ ao' = some ⟨g', o', none⟩ ∧ w.rangeAt g (o + i * 14) (bkL m) ∧ w.rangeAt g' (o' + i * 14) (bkL m)) := fun i hi => by
    have hm : ms[i]? = some ms[i] := List.getElem?_eq_getElem (by omega)
    obtain ⟨g, o, e, _, r⟩ := H i _ hm
    obtain ⟨g', o', e', _, r'⟩ := H' i _ hm
    exact ⟨_, ok _ (List.getElem_mem (by omega)), g, o, g', o', e, e', r, r'⟩
  rw [hL] at hc hc' hl ⊢
  clear H H' hL hn hn' ok
  have e0 : ((L : Int) != (L : Int)) = false := by simp
  go_enter Tryd.func7, Tryd.ntmps7
  go_wp2_with fail
  go_loopw [5] (fun vk wr => ∃ k n : Nat, vk = .int .i64 (k : Int) ∧ k ≤ L ∧ wr = w.drewN n) (fun vk _ => L - (intOf vk).toNat)
  case atStart => exact ⟨0, 0, rfl, by omega, rfl⟩
  case round =>
    obtain ⟨k, n, rfl, hk, rfl⟩ := hrel
    by_cases hlt : (k : Int) < (L : Int)
    · obtain ⟨m, mok, g, o, g', o', rfl, rfl, a0, b0⟩ := GI.out k (by omega)
      have A0 : Hid (∀ n, (w.drewN n).rangeAt g (o + k * 14) (bkL m)) := fun n => a0
      have B0 : Hid (∀ n, (w.drewN n).rangeAt g' (o' + k * 14) (bkL m)) := fun n => b0
      have EQ : Hid (EqS 29 (bkL m)) := eqs_mo m mok
      have IM : Hid ((Tryd.prog.info? 29).map (·.size) = some (bkL m).length) := infoMl mok.1
      clear GI a0 b0 mok
      go_wp2_with fail
      refine wp_region_quiet_lit (by kernel_rfl) (by kernel_rfl) ?_
      repeat (first
        | go_big_quiet_skip
        | (go_big_quiet_want; first
          | (refine quiet_loadG 29 _ rfl g (o + k * 14) rfl (bkL m) _ (fun w' hw' => by obtain ⟨n', rfl⟩ := hw'; rw [World.drewN_drewN]; exact A0.out _) Tryd.underlying29 rfl IM.out ?_; go_big_quiet_on; simp only [Act.put, List.setIfInBounds_toArray, List.set_cons_succ, List.set_cons_zero])
          | (refine quiet_loadG 29 _ rfl g' (o' + k * 14) rfl (bkL m) _ (fun w' hw' => by obtain ⟨n', rfl⟩ := hw'; rw [World.drewN_drewN]; exact B0.out _) Tryd.underlying29 rfl IM.out ?_; go_big_quiet_on; simp only [Act.put, List.setIfInBounds_toArray, List.set_cons_succ, List.set_cons_zero])
          | (refine quiet_neqS 29 _ _ _ rfl (bkL m) rfl rfl (by kernel_rfl) EQ.out ?_; go_big_quiet_on; simp only [Act.put, List.setIfInBounds_toArray, List.set_cons_succ, List.set_cons_zero])
          | (go_big_quiet_op; go_big_quiet_on)))
      refine wpQuiet_nil ?_
      intro _ hw'
      obtain ⟨nq, hw''⟩ := hw'
      subst hw''
      go_wp2_with fail
      go_roundw
      case rel => exact ⟨k + 1, _, by go_num, by omega, rfl⟩
      case measure => simp [intOf]; omega
    · clear GI
      go_wp2_with fail
      go_ret
      exact ⟨rfl, n, rfl⟩
end Go.Proofs.YtmennknknecgjaaDoor

namespace Go.Proofs.YtmennknknecgjaaDoor
open Go.RowKit LedM StM

set_option maxRecDepth 20000 in
set_option maxHeartbeats 4000000 in
theorem sameT_yes (ts : List (List UInt8)) (va vb : Value) (w : World) (hl : ts.length ≤ 1000000000) (h : Rd w va (txL ts)) (h' : Rd w vb (txL ts)) : Calls Tryd.prog 9 #[va, vb] w fun e w' => e = .returned (.bool true) ∧ ∃ n, w' = w.drewN n := by
  obtain ⟨ao, cap, rfl, hc, hn, H⟩ := h
  obtain ⟨ao', cap', rfl, hc', hn', H'⟩ := h'
  obtain ⟨L, hL⟩ : ∃ L, ts.length = L := ⟨_, rfl⟩
  have GI : Hid (∀ i, i < L → ∃ t : List UInt8, ∃ g o g' o', ao = some ⟨g, o, none⟩ ∧ ao' = some ⟨g', o', none⟩ ∧ w.cell? ⟨g, o + i, none⟩ = some (.string ⟨t.toArray⟩) ∧ w.cell? ⟨g', o' + i, none⟩ = some (.string ⟨t.toArray⟩)) := fun i hi => by
    have hl1 : i < (txL ts).length := by rw [txL_len]; omega
    have hm : (txL ts)[i] = .string ⟨ts[i].toArray⟩ := by simp [txL]
    obtain ⟨g, o, e, _, r⟩ := H i hl1
    obtain ⟨g', o', e', _, r'⟩ := H' i hl1
    rw [hm] at r r'
    exact ⟨_, g, o, g', o', e, e', r, r'⟩
  rw [txL_len, hL] at hc hc'
  rw [txL_len, hL]
  rw [hL] at hl
  clear H H' hL hn hn'
  have e0 : ((L : Int) != (L : Int)) = false := by simp
  go_enter Tryd.func9, Tryd.ntmps9
  go_wp2_with fail
  go_loopw [5] (fun vk wr => ∃ k n : Nat, vk = .int .i64 (k : Int) ∧ k ≤ L ∧ wr = w.drewN n) (fun vk _ => L - (intOf vk).toNat)
  case atStart => exact ⟨0, 0, rfl, by omega, rfl⟩
  case round =>
    obtain ⟨k, n, rfl, hk, rfl⟩ := hrel
    by_cases hlt : (k : Int) < (L : Int)
    · obtain ⟨t, g, o, g', o', rfl, rfl, a0, b0⟩ := GI.out k (by omega)
      clear GI
      go_wp2_with fail
      go_quiet (fail)
      go_wp2_with fail
      go_roundw
      case rel => exact ⟨k + 1, _, by go_num, by omega, rfl⟩
      case measure => simp [intOf]; omega
    · clear GI
      go_wp2_with fail
      go_ret
      exact ⟨rfl, n, rfl⟩
end Go.Proofs.YtmennknknecgjaaDoor
