/-
  Ours: the law's sameLoan and same at answers that differ in where their plans lie alone.
-/
import Derived.Test.YtgdmkcbbomfmdaaGreatDoorLoEq
import Derived.Test.YtgdmkcbbomfmdaaGreatDoorLoOp1
import Derived.BigGuard
import Derived.DeepKeys
namespace Go.Proofs.YtgdmkcbbomfmdaaGreatDoor
open Go.RowKit LedM PolM CoM LoM

/-- A struct that is equal to itself. -/
def EqS (t : TypeId) (X : List Value) : Prop := ∀ w, (Op.equalIn 10000 t (.agg X.toArray) (.agg X.toArray)).run Tryz.prog w = .ok true w
section
variable {ops : Array Oper}
theorem step_neqS {rest : List Oper} {op : Oper} {a : Act} {w : World} {Q : Exit → Act → World → Prop} (hw : Region.wanted op (yielded ops a.tmps) = true) (t t' : TypeId) (x y : Operand) (ho : op.op = .binOp .neq t x y t') (X : List Value) (hx : a.eval x = .agg X.toArray) (hy : a.eval y = .agg X.toArray) (hg : Tryz.prog.eqGuardType Tryz.prog.depth t = false) (he : EqS t X)
    (h : wpList Tryz.prog ops Q rest (a.put op.dst (.bool false)) w) : wpList Tryz.prog ops Q (op :: rest) a w :=
  BigFrame.wpList_want hw fun _ hK => by
    unfold Oper.wp execOp
    simp only [ho, hx, hy, Sem.run_bind, run_eqGuard_agg w _ _ _ _ _ _ hg, Result.andThen_ok, run_neq_struct, he w]
    exact hK _ _ h
theorem step_eqlS {rest : List Oper} {op : Oper} {a : Act} {w : World} {Q : Exit → Act → World → Prop} (hw : Region.wanted op (yielded ops a.tmps) = true) (t t' : TypeId) (x y : Operand) (ho : op.op = .binOp .eql t x y t') (X : List Value) (hx : a.eval x = .agg X.toArray) (hy : a.eval y = .agg X.toArray) (hg : Tryz.prog.eqGuardType Tryz.prog.depth t = false) (he : EqS t X)
    (h : wpList Tryz.prog ops Q rest (a.put op.dst (.bool true)) w) : wpList Tryz.prog ops Q (op :: rest) a w :=
  BigFrame.wpList_want hw fun _ hK => by
    unfold Oper.wp execOp
    simp only [ho, hx, hy, Sem.run_bind, run_eqGuard_agg w _ _ _ _ _ _ hg, Result.andThen_ok, run_eql_struct, he w]
    exact hK _ _ h
end
theorem infoTm (l : List Int) : (Tryz.prog.info? 26).map (·.size) = some (i6 l).length := by show _ = some 6; kernel_rfl
theorem infoBo (l : List Int) : (Tryz.prog.info? 31).map (·.size) = some (i12 l).length := by show _ = some 12; kernel_rfl
theorem infoCa (c : Cs) : (Tryz.prog.info? 33).map (·.size) = some (csL c).length := by show _ = some 15; kernel_rfl
theorem infoPa (l : List Int) : (Tryz.prog.info? 35).map (·.size) = some (i5 l).length := by show _ = some 5; kernel_rfl

set_option maxRecDepth 20000 in
set_option maxHeartbeats 4000000 in
theorem sameLn_yes (L : Lo) (va vb : Value) (rs : List (Int × Int × Int)) (w : World) (hl : rs.length ≤ 1000000000) (hB : ∀ i, i64 (L.bk.getD i 0)) (ha : RdX w va rs) (hb : RdX w vb rs) :
    Calls Tryz.prog 12 #[.agg (lnL { L with pl := va }).toArray, .agg (lnL { L with pl := vb }).toArray] w fun e w' => e = .returned (.bool true) ∧ Below w.heap.size w w' := by
  have SP : Hid (∀ W, Below w.heap.size w W → Calls Tryz.prog 32 #[va, vb] W fun e w' => e = .returned (.bool true) ∧ ∃ n, w' = W.drewN n) := fun W hh => samePlanL_yes rs va vb W hl (ha.later hh) (hb.later hh)
  obtain ⟨aa, ac, rfl, -⟩ := ha
  obtain ⟨ba, bc, rfl, -⟩ := hb
  obtain ⟨NN, hNN⟩ : ∃ n, rs.length = n := ⟨_, rfl⟩
  rw [hNN] at SP ⊢
  clear hNN
  have E1 : Hid (EqS 26 (i6 L.tm)) := fun w => ltm_same L.tm w
  have E3 : Hid (EqS 31 (i12 L.bk)) := fun w => lbk_same L.bk hB w
  have E4 : Hid (EqS 33 (csL L.cs)) := fun w => lcs_same L.cs w
  have E8 : Hid (EqS 35 (i5 L.la)) := fun w => lpa_same L.la w
  have BX : Hid (Blk w.heap.size 37 (lnL { L with pl := .slice aa NN ac }) ((w.alloc (.cells (lnL { L with pl := .slice aa NN ac }).toArray 37)).alloc (.cells (lnL { L with pl := .slice ba NN bc }).toArray 37))) := (Blk.new 37 _ w).old _
  have BY : Hid (Blk (w.heap.size + 1) 37 (lnL { L with pl := .slice ba NN bc }) ((w.alloc (.cells (lnL { L with pl := .slice aa NN ac }).toArray 37)).alloc (.cells (lnL { L with pl := .slice ba NN bc }).toArray 37))) := Blk.new2 37 _ w _
  have BW : Hid (Below w.heap.size w ((w.alloc (.cells (lnL { L with pl := .slice aa NN ac }).toArray 37)).alloc (.cells (lnL { L with pl := .slice ba NN bc }).toArray 37))) := below_trans (below_alloc _ _) (below_alloc _ _)
  clear hl hB
  go_enter Tryz.func12, Tryz.ntmps12
  go_upto_region 1 with fail
  generalize ((w.alloc (.cells (lnL { L with pl := .slice aa NN ac }).toArray 37)).alloc (.cells (lnL { L with pl := .slice ba NN bc }).toArray 37)) = W0 at *
  obtain ⟨X, hX⟩ : ∃ X, w.heap.size = X := ⟨_, rfl⟩
  rw [hX] at BX BY ⊢
  have HXX : Hid (w.heap.size = X) := hX
  clear hX
  have c0 : W0.cell? ⟨X, 0, none⟩ = some (.int .i64 L.id) := BX.out.cell 0 _ rfl
  have d0 : W0.cell? ⟨X + 1, 0, none⟩ = some (.int .i64 L.id) := BY.out.cell 0 _ rfl
  have c1 : W0.cell? ⟨X, 35, none⟩ = some (.int .i64 L.dy) := BX.out.cell 35 _ rfl
  have d1 : W0.cell? ⟨X + 1, 35, none⟩ = some (.int .i64 L.dy) := BY.out.cell 35 _ rfl
  have c2 : W0.cell? ⟨X, 36, none⟩ = some (.int .i64 L.ca) := BX.out.cell 36 _ rfl
  have d2 : W0.cell? ⟨X + 1, 36, none⟩ = some (.int .i64 L.ca) := BY.out.cell 36 _ rfl
  have c3 : W0.cell? ⟨X, 37, none⟩ = some (.int .i64 L.ap) := BX.out.cell 37 _ rfl
  have d3 : W0.cell? ⟨X + 1, 37, none⟩ = some (.int .i64 L.ap) := BY.out.cell 37 _ rfl
  have c4 : W0.cell? ⟨X, 43, none⟩ = some (.bool L.hl) := BX.out.cell 43 _ rfl
  have d4 : W0.cell? ⟨X + 1, 43, none⟩ = some (.bool L.hl) := BY.out.cell 43 _ rfl
  have c5 : W0.cell? ⟨X, 44, none⟩ = some (.int .i64 L.co) := BX.out.cell 44 _ rfl
  have d5 : W0.cell? ⟨X + 1, 44, none⟩ = some (.int .i64 L.co) := BY.out.cell 44 _ rfl
  have c6 : W0.cell? ⟨X, 45, none⟩ = some (.int .i64 L.tr) := BX.out.cell 45 _ rfl
  have d6 : W0.cell? ⟨X + 1, 45, none⟩ = some (.int .i64 L.tr) := BY.out.cell 45 _ rfl
  have cp : W0.cell? ⟨X, 7, none⟩ = some (.slice aa NN ac) := BX.out.cell 7 _ rfl
  have dp : W0.cell? ⟨X + 1, 7, none⟩ = some (.slice ba NN bc) := BY.out.cell 7 _ rfl
  have RX1 : Hid (∀ n, (W0.drewN n).rangeAt X 1 (i6 L.tm)) := fun n => BX.out.range 1 6
  have RY1 : Hid (∀ n, (W0.drewN n).rangeAt (X + 1) 1 (i6 L.tm)) := fun n => BY.out.range 1 6
  have RX3 : Hid (∀ n, (W0.drewN n).rangeAt X 8 (i12 L.bk)) := fun n => BX.out.range 8 12
  have RY3 : Hid (∀ n, (W0.drewN n).rangeAt (X + 1) 8 (i12 L.bk)) := fun n => BY.out.range 8 12
  have RX4 : Hid (∀ n, (W0.drewN n).rangeAt X 20 (csL L.cs)) := fun n => BX.out.range 20 15
  have RY4 : Hid (∀ n, (W0.drewN n).rangeAt (X + 1) 20 (csL L.cs)) := fun n => BY.out.range 20 15
  have RX8 : Hid (∀ n, (W0.drewN n).rangeAt X 38 (i5 L.la)) := fun n => BX.out.range 38 5
  have RY8 : Hid (∀ n, (W0.drewN n).rangeAt (X + 1) 38 (i5 L.la)) := fun n => BY.out.range 38 5
  generalize L.id = xid at *
  generalize L.dy = xdy at *
  generalize L.ca = xca at *
  generalize L.ap = xap at *
  generalize L.hl = xhl at *
  generalize L.co = xco at *
  generalize L.tr = xtr at *
  have nid : (xid != xid) = false := by simp
  have eid : (xid == xid) = true := by simp
  have ndy : (xdy != xdy) = false := by simp
  have edy : (xdy == xdy) = true := by simp
  have nca : (xca != xca) = false := by simp
  have eca : (xca == xca) = true := by simp
  have nap : (xap != xap) = false := by simp
  have eap : (xap == xap) = true := by simp
  have nhl : (xhl != xhl) = false := by simp
  have ehl : (xhl == xhl) = true := by simp
  have nco : (xco != xco) = false := by simp
  have eco : (xco == xco) = true := by simp
  have ntr : (xtr != xtr) = false := by simp
  have etr : (xtr == xtr) = true := by simp
  clear BX BY
  go_wp2_with (first
    | (refine step_loadG rfl 26 _ rfl X 1 rfl (i6 L.tm) _ (RX1.out 0) Tryz.underlying26 rfl (infoTm _) ?_)
    | (refine step_loadG rfl 26 _ rfl (X + 1) 1 rfl (i6 L.tm) _ (RY1.out 0) Tryz.underlying26 rfl (infoTm _) ?_)
    | (refine step_neqS rfl 26 _ _ _ rfl (i6 L.tm) rfl rfl (by kernel_rfl) E1.out ?_)
    | (refine step_loadG rfl 31 _ rfl X 8 rfl (i12 L.bk) _ (RX3.out 0) Tryz.underlying31 rfl (infoBo _) ?_)
    | (refine step_loadG rfl 31 _ rfl (X + 1) 8 rfl (i12 L.bk) _ (RY3.out 0) Tryz.underlying31 rfl (infoBo _) ?_)
    | (refine step_neqS rfl 31 _ _ _ rfl (i12 L.bk) rfl rfl (by kernel_rfl) E3.out ?_)
    | (refine step_loadG rfl 33 _ rfl X 20 rfl (csL L.cs) _ (RX4.out 0) Tryz.underlying33 rfl (infoCa _) ?_)
    | (refine step_loadG rfl 33 _ rfl (X + 1) 20 rfl (csL L.cs) _ (RY4.out 0) Tryz.underlying33 rfl (infoCa _) ?_)
    | (refine step_neqS rfl 33 _ _ _ rfl (csL L.cs) rfl rfl (by kernel_rfl) E4.out ?_))
  refine (SP.out W0 BW.out).mono ?_
  rintro e w3 ⟨rfl, n, rfl⟩
  clear SP
  go_wp2_with (first
    | (refine step_loadG rfl 35 _ rfl X 38 rfl (i5 L.la) _ (RX8.out n) Tryz.underlying35 rfl (infoPa _) ?_)
    | (refine step_loadG rfl 35 _ rfl (X + 1) 38 rfl (i5 L.la) _ (RY8.out n) Tryz.underlying35 rfl (infoPa _) ?_)
    | (refine step_eqlS rfl 35 _ _ _ rfl (i5 L.la) rfl rfl (by kernel_rfl) E8.out ?_))
  go_ret
  exact ⟨rfl, below_drewN BW.out n⟩

set_option maxRecDepth 20000 in
set_option maxHeartbeats 4000000 in
theorem sameOu_yes (L : Lo) (va vb : Value) (pa : List Int) (k : Int) (rs : List (Int × Int × Int)) (w : World) (hl : rs.length ≤ 1000000000) (hB : ∀ i, i64 (L.bk.getD i 0)) (ha : RdX w va rs) (hb : RdX w vb rs) :
    Calls Tryz.prog 6 #[.agg (ouL { L with pl := va } pa (.slice none 0 0) k).toArray, .agg (ouL { L with pl := vb } pa (.slice none 0 0) k).toArray] w fun e w' => e = .returned (.bool true) ∧ Below w.heap.size w w' := by
  have SP : Hid (∀ W, Below w.heap.size w W → Calls Tryz.prog 12 #[.agg (lnL { L with pl := va }).toArray, .agg (lnL { L with pl := vb }).toArray] W fun e w' => e = .returned (.bool true) ∧ Below W.heap.size W w') := fun W hh => sameLn_yes L va vb rs W hl hB (ha.later hh) (hb.later hh)
  obtain ⟨aa, ac, rfl, -⟩ := ha
  obtain ⟨ba, bc, rfl, -⟩ := hb
  obtain ⟨NN, hNN⟩ : ∃ n, rs.length = n := ⟨_, rfl⟩
  rw [hNN] at SP ⊢
  clear hNN
  have E8 : Hid (EqS 35 (i5 pa)) := fun w => lpa_same pa w
  have BX : Hid (Blk w.heap.size 41 (ouL { L with pl := .slice aa NN ac } pa (.slice none 0 0) k) ((w.alloc (.cells (ouL { L with pl := .slice aa NN ac } pa (.slice none 0 0) k).toArray 41)).alloc (.cells (ouL { L with pl := .slice ba NN bc } pa (.slice none 0 0) k).toArray 41))) := (Blk.new 41 _ w).old _
  have BY : Hid (Blk (w.heap.size + 1) 41 (ouL { L with pl := .slice ba NN bc } pa (.slice none 0 0) k) ((w.alloc (.cells (ouL { L with pl := .slice aa NN ac } pa (.slice none 0 0) k).toArray 41)).alloc (.cells (ouL { L with pl := .slice ba NN bc } pa (.slice none 0 0) k).toArray 41))) := Blk.new2 41 _ w _
  have BW : Hid (Below w.heap.size w ((w.alloc (.cells (ouL { L with pl := .slice aa NN ac } pa (.slice none 0 0) k).toArray 41)).alloc (.cells (ouL { L with pl := .slice ba NN bc } pa (.slice none 0 0) k).toArray 41))) := below_trans (below_alloc _ _) (below_alloc _ _)
  clear hl hB
  go_enter Tryz.func6, Tryz.ntmps6
  go_upto_region 1 with fail
  generalize ((w.alloc (.cells (ouL { L with pl := .slice aa NN ac } pa (.slice none 0 0) k).toArray 41)).alloc (.cells (ouL { L with pl := .slice ba NN bc } pa (.slice none 0 0) k).toArray 41)) = W0 at *
  obtain ⟨X, hX⟩ : ∃ X, w.heap.size = X := ⟨_, rfl⟩
  rw [hX] at BX BY ⊢
  have HXX : Hid (w.heap.size = X) := hX
  clear hX
  have c0 : W0.cell? ⟨X, 52, none⟩ = some (.int .i64 k) := BX.out.cell 52 _ rfl
  have d0 : W0.cell? ⟨X + 1, 52, none⟩ = some (.int .i64 k) := BY.out.cell 52 _ rfl
  have c1 : W0.cell? ⟨X, 51, none⟩ = some (.slice none 0 0) := BX.out.cell 51 _ rfl
  have d1 : W0.cell? ⟨X + 1, 51, none⟩ = some (.slice none 0 0) := BY.out.cell 51 _ rfl
  have RX8 : Hid (W0.rangeAt X 46 (i5 pa)) := BX.out.range 46 5
  have RY8 : Hid (W0.rangeAt (X + 1) 46 (i5 pa)) := BY.out.range 46 5
  have RXL : Hid (W0.rangeAt X 0 (lnL { L with pl := .slice aa NN ac })) := BX.out.range 0 46
  have RYL : Hid (W0.rangeAt (X + 1) 0 (lnL { L with pl := .slice ba NN bc })) := BY.out.range 0 46
  have IA : Hid ((Tryz.prog.info? 37).map (·.size) = some (lnL { L with pl := .slice aa NN ac }).length) := sizeLn _
  have IB : Hid ((Tryz.prog.info? 37).map (·.size) = some (lnL { L with pl := .slice ba NN bc }).length) := sizeLn _
  have nk : (k != k) = false := by simp
  have SC : Hid (Calls Tryz.prog 12 #[.agg (lnL { L with pl := .slice aa NN ac }).toArray, .agg (lnL { L with pl := .slice ba NN bc }).toArray] W0 fun e w' => e = .returned (.bool true) ∧ Below W0.heap.size W0 w') := SP.out W0 BW.out
  have CXN : Hid (∀ W, Below W0.heap.size W0 W → W.cell? ⟨X, 51, none⟩ = some (.slice none 0 0)) := fun W b => (b.cell (p := ⟨X, 51, none⟩) BX.out.lt).trans (BX.out.cell 51 _ rfl)
  clear BX BY SP
  generalize lnL { L with pl := .slice aa NN ac } = lna at *
  generalize lnL { L with pl := .slice ba NN bc } = lnb at *
  go_wp2_with (first
    | (refine step_loadG rfl 35 _ rfl X 46 rfl (i5 pa) _ RX8.out Tryz.underlying35 rfl (infoPa _) ?_)
    | (refine step_loadG rfl 35 _ rfl (X + 1) 46 rfl (i5 pa) _ RY8.out Tryz.underlying35 rfl (infoPa _) ?_)
    | (refine step_neqS rfl 35 _ _ _ rfl (i5 pa) rfl rfl (by kernel_rfl) E8.out ?_)
    | (refine step_loadG rfl 37 _ rfl X 0 rfl lna _ RXL.out Tryz.underlying37 rfl IA.out ?_)
    | (refine step_loadG rfl 37 _ rfl (X + 1) 0 rfl lnb _ RYL.out Tryz.underlying37 rfl IB.out ?_))
  refine SC.out.mono ?_
  rintro e w3 ⟨rfl, b3⟩
  have CN : Hid (w3.cell? ⟨X, 51, none⟩ = some (.slice none 0 0)) := CXN.out w3 b3
  have BW3 : Hid (Below w.heap.size w w3) := below_trans BW.out b3
  have cn := CN.out
  clear SC CXN b3 BW RXL RYL RX8 RY8 c0 d0 c1 d1 E8 IA IB
  go_wp2_with fail
  go_loop [5] (fun i => i = .int .i64 0) (fun _ => 0)
  case atStart => rfl
  case round =>
    subst hrel
    go_wp2_with fail
    go_ret
    exact ⟨rfl, BW3.out⟩
end Go.Proofs.YtgdmkcbbomfmdaaGreatDoor
