/-
  Ours: the law's sameLoan and same at answers that differ in where their plans lie alone.
-/
import Derived.Test.YtgdmkcbbomfmdaaGreatDoorLoCat
import Derived.Laws.StructEq
import Derived.DeepKeys
import Derived.Test.YtgdmkcbbomfmdaaGreatDoorLoPx
import Derived.Deep.QuietTactic
import Derived.BigQuiet
import Derived.BigGuard
namespace Go.Proofs.YtgdmkcbbomfmdaaGreatDoor
open Go.RowKit LedM PolM CoM LoM
set_option maxRecDepth 20000 in
theorem lcs_same (c : Cs) (w : World) : (Op.equalIn 10000 33 (.agg (csL c).toArray) (.agg (csL c).toArray)).run Tryz.prog w = .ok true w := by
  have u3 := Tryz.underlying3
  have u2 := Tryz.underlying2
  have u4 := Tryz.underlying4
  have a3 : ∀ w, (isAgg 3).run Tryz.prog w = .ok false w := fun w => by unfold isAgg; rw [Sem.run_bind, run_underlying u3 w]; rfl
  have a2 : ∀ w, (isAgg 2).run Tryz.prog w = .ok false w := fun w => by unfold isAgg; rw [Sem.run_bind, run_underlying u2 w]; rfl
  have a4 : ∀ w, (isAgg 4).run Tryz.prog w = .ok false w := fun w => by unfold isAgg; rw [Sem.run_bind, run_underlying u4 w]; rfl
  have z3 : (Tryz.prog.info? 3).map (·.size) = some 1 := by kernel_rfl
  have z2 : (Tryz.prog.info? 2).map (·.size) = some 1 := by kernel_rfl
  have z4 : (Tryz.prog.info? 4).map (·.size) = some 1 := by kernel_rfl
  have s3 : ∀ w, (sizeOf 3).run Tryz.prog w = .ok 1 w := fun w => by
    cases hq : Tryz.prog.info? 3 with
    | none => simp [hq] at z3
    | some i => have : i.size = 1 := by simpa [hq] using z3
                simp [sizeOf, typeInfo, hq, this]
  have s2 : ∀ w, (sizeOf 2).run Tryz.prog w = .ok 1 w := fun w => by
    cases hq : Tryz.prog.info? 2 with
    | none => simp [hq] at z2
    | some i => have : i.size = 1 := by simpa [hq] using z2
                simp [sizeOf, typeInfo, hq, this]
  have s4 : ∀ w, (sizeOf 4).run Tryz.prog w = .ok 1 w := fun w => by
    cases hq : Tryz.prog.info? 4 with
    | none => simp [hq] at z4
    | some i => have : i.size = 1 := by simpa [hq] using z4
                simp [sizeOf, typeInfo, hq, this]
  have hS : Tryz.prog.underlying 33 = some (.struct (Tryz.prog.fieldsOf 33)) := by kernel_rfl
  have hp : Tryz.prog.stoodInHeld 33 = false := by kernel_rfl
  simp only [csL]
  rw [show (10000 : Nat) = 9999 + 1 from rfl, run_equalIn_agg w 9999 33 _ _ hS hp]
  simp only [Program.fieldsOf, Tryz.underlying33]
  go_simp
set_option maxRecDepth 20000 in
theorem ltm_same (l : List Int) (w : World) : (Op.equalIn 10000 26 (.agg (i6 l).toArray) (.agg (i6 l).toArray)).run Tryz.prog w = .ok true w := by
  have u3 := Tryz.underlying3
  have u2 := Tryz.underlying2
  have u4 := Tryz.underlying4
  have a3 : ∀ w, (isAgg 3).run Tryz.prog w = .ok false w := fun w => by unfold isAgg; rw [Sem.run_bind, run_underlying u3 w]; rfl
  have a2 : ∀ w, (isAgg 2).run Tryz.prog w = .ok false w := fun w => by unfold isAgg; rw [Sem.run_bind, run_underlying u2 w]; rfl
  have a4 : ∀ w, (isAgg 4).run Tryz.prog w = .ok false w := fun w => by unfold isAgg; rw [Sem.run_bind, run_underlying u4 w]; rfl
  have z3 : (Tryz.prog.info? 3).map (·.size) = some 1 := by kernel_rfl
  have z2 : (Tryz.prog.info? 2).map (·.size) = some 1 := by kernel_rfl
  have z4 : (Tryz.prog.info? 4).map (·.size) = some 1 := by kernel_rfl
  have s3 : ∀ w, (sizeOf 3).run Tryz.prog w = .ok 1 w := fun w => by
    cases hq : Tryz.prog.info? 3 with
    | none => simp [hq] at z3
    | some i => have : i.size = 1 := by simpa [hq] using z3
                simp [sizeOf, typeInfo, hq, this]
  have s2 : ∀ w, (sizeOf 2).run Tryz.prog w = .ok 1 w := fun w => by
    cases hq : Tryz.prog.info? 2 with
    | none => simp [hq] at z2
    | some i => have : i.size = 1 := by simpa [hq] using z2
                simp [sizeOf, typeInfo, hq, this]
  have s4 : ∀ w, (sizeOf 4).run Tryz.prog w = .ok 1 w := fun w => by
    cases hq : Tryz.prog.info? 4 with
    | none => simp [hq] at z4
    | some i => have : i.size = 1 := by simpa [hq] using z4
                simp [sizeOf, typeInfo, hq, this]
  have hS : Tryz.prog.underlying 26 = some (.struct (Tryz.prog.fieldsOf 26)) := by kernel_rfl
  have hp : Tryz.prog.stoodInHeld 26 = false := by kernel_rfl
  simp only [i6]
  rw [show (10000 : Nat) = 9999 + 1 from rfl, run_equalIn_agg w 9999 26 _ _ hS hp]
  simp only [Program.fieldsOf, Tryz.underlying26]
  go_simp
set_option maxRecDepth 20000 in
theorem lpa_same (l : List Int) (w : World) : (Op.equalIn 10000 35 (.agg (i5 l).toArray) (.agg (i5 l).toArray)).run Tryz.prog w = .ok true w := by
  have u3 := Tryz.underlying3
  have u2 := Tryz.underlying2
  have u4 := Tryz.underlying4
  have a3 : ∀ w, (isAgg 3).run Tryz.prog w = .ok false w := fun w => by unfold isAgg; rw [Sem.run_bind, run_underlying u3 w]; rfl
  have a2 : ∀ w, (isAgg 2).run Tryz.prog w = .ok false w := fun w => by unfold isAgg; rw [Sem.run_bind, run_underlying u2 w]; rfl
  have a4 : ∀ w, (isAgg 4).run Tryz.prog w = .ok false w := fun w => by unfold isAgg; rw [Sem.run_bind, run_underlying u4 w]; rfl
  have z3 : (Tryz.prog.info? 3).map (·.size) = some 1 := by kernel_rfl
  have z2 : (Tryz.prog.info? 2).map (·.size) = some 1 := by kernel_rfl
  have z4 : (Tryz.prog.info? 4).map (·.size) = some 1 := by kernel_rfl
  have s3 : ∀ w, (sizeOf 3).run Tryz.prog w = .ok 1 w := fun w => by
    cases hq : Tryz.prog.info? 3 with
    | none => simp [hq] at z3
    | some i => have : i.size = 1 := by simpa [hq] using z3
                simp [sizeOf, typeInfo, hq, this]
  have s2 : ∀ w, (sizeOf 2).run Tryz.prog w = .ok 1 w := fun w => by
    cases hq : Tryz.prog.info? 2 with
    | none => simp [hq] at z2
    | some i => have : i.size = 1 := by simpa [hq] using z2
                simp [sizeOf, typeInfo, hq, this]
  have s4 : ∀ w, (sizeOf 4).run Tryz.prog w = .ok 1 w := fun w => by
    cases hq : Tryz.prog.info? 4 with
    | none => simp [hq] at z4
    | some i => have : i.size = 1 := by simpa [hq] using z4
                simp [sizeOf, typeInfo, hq, this]
  have hS : Tryz.prog.underlying 35 = some (.struct (Tryz.prog.fieldsOf 35)) := by kernel_rfl
  have hp : Tryz.prog.stoodInHeld 35 = false := by kernel_rfl
  simp only [i5]
  rw [show (10000 : Nat) = 9999 + 1 from rfl, run_equalIn_agg w 9999 35 _ _ hS hp]
  simp only [Program.fieldsOf, Tryz.underlying35]
  go_simp
theorem lwf64 {x : Int} (h : i64 x) : (Lit.int .i64 x).wf = true := by
  have h1 : IntKind.i64.min = -9223372036854775808 := by decide
  have h2 : IntKind.i64.max = 9223372036854775807 := by decide
  simp only [Lit.wf, h1, h2, Bool.and_eq_true, decide_eq_true_eq]
  exact h
set_option maxRecDepth 20000 in
theorem lbk_same (m : List Int) (hw : ∀ i, i64 (m.getD i 0)) (w : World) : (Op.equalIn 10000 31 (.agg (i12 m).toArray) (.agg (i12 m).toArray)).run Tryz.prog w = .ok true w := by
  have f := fun i => lwf64 (hw i)
  unfold i12
  have a0 := f 0
  have a1 := f 1
  have a2 := f 2
  have a3 := f 3
  have a4 := f 4
  have a5 := f 5
  have a6 := f 6
  have a7 := f 7
  have a8 := f 8
  have a9 := f 9
  have a10 := f 10
  have a11 := f 11
  generalize m.getD 0 0 = x0 at *
  generalize m.getD 1 0 = x1 at *
  generalize m.getD 2 0 = x2 at *
  generalize m.getD 3 0 = x3 at *
  generalize m.getD 4 0 = x4 at *
  generalize m.getD 5 0 = x5 at *
  generalize m.getD 6 0 = x6 at *
  generalize m.getD 7 0 = x7 at *
  generalize m.getD 8 0 = x8 at *
  generalize m.getD 9 0 = x9 at *
  generalize m.getD 10 0 = x10 at *
  generalize m.getD 11 0 = x11 at *
  have c1 : Tryz.prog.cellsOf 31 = 12 := by kernel_rfl
  have c3 : Tryz.prog.cellsOf 2 = 1 := by kernel_rfl
  have c4 : Tryz.prog.cellsOf 29 = 12 := by kernel_rfl
  have E := run_equalIn_deep (P := Tryz.prog) 9997 3 31 (by kernel_rfl)
  have fx : (Value.agg #[Value.int .i64 x0, Value.int .i64 x1, Value.int .i64 x2, Value.int .i64 x3, Value.int .i64 x4, Value.int .i64 x5, Value.int .i64 x6, Value.int .i64 x7, Value.int .i64 x8, Value.int .i64 x9, Value.int .i64 x10, Value.int .i64 x11]).formed Tryz.prog 31 = true := by simp [Value.formed, Tryz.underlying31, c1]
  have kx : Tryz.prog.keyLits 3 31 [Value.int .i64 x0, Value.int .i64 x1, Value.int .i64 x2, Value.int .i64 x3, Value.int .i64 x4, Value.int .i64 x5, Value.int .i64 x6, Value.int .i64 x7, Value.int .i64 x8, Value.int .i64 x9, Value.int .i64 x10, Value.int .i64 x11] = some [.int .i64 x0, .int .i64 x1, .int .i64 x2, .int .i64 x3, .int .i64 x4, .int .i64 x5, .int .i64 x6, .int .i64 x7, .int .i64 x8, .int .i64 x9, .int .i64 x10, .int .i64 x11] := by
    simp [Program.keyLits, Tryz.underlying2, c1, c3, c4, Tryz.underlying29, List.range_succ, Tryz.underlying31, a0, a1, a2, a3, a4, a5, a6, a7, a8, a9, a10, a11]
  obtain ⟨r, h1, h2⟩ := E w 3 3 _ _ _ _ fx fx (by simpa [Value.cells] using kx) (by simpa [Value.cells] using kx)
  have e := h2.2 rfl
  subst e
  exact h1
end Go.Proofs.YtgdmkcbbomfmdaaGreatDoor

namespace Go.Proofs.YtgdmkcbbomfmdaaGreatDoor
open Go.RowKit LedM CoM LoM

/-- A plan that can be read: its rows' cells. -/
def RdX (w : World) (v : Value) (rs : List (Int × Int × Int)) : Prop :=
  ∃ a cap, v = .slice a rs.length cap ∧ ∀ i, i < rs.length → ∃ g o, a = some ⟨g, o, none⟩ ∧ ∀ (j : Nat) (u : Value), (instC (rs.getD i (0, 0, 0)))[j]? = some u → w.cell? ⟨g, o + i * 4 + j, none⟩ = some u
theorem PlX.rd {rs : List (Int × Int × Int)} {ex : List (Nat × TypeId × List Value)} {v : Value} {w : World} (h : PlX rs ex v) (hx : ∀ q ∈ ex, Blk q.1 q.2.1 q.2.2 w) : RdX w v rs := by
  rcases h with ⟨rfl, rfl, _⟩ | ⟨g, cap, cs, rfl, _, _, rfl, hc, ht⟩
  · exact ⟨none, 0, rfl, fun i hi => absurd hi (by simp)⟩
  · refine ⟨_, cap, rfl, fun i hi => ⟨g, 0, rfl, fun j u hu => ?_⟩⟩
    have hj : j < 4 := by
      have := (List.getElem?_eq_some_iff.1 hu).1
      simpa [instC] using this
    have hb : Blk g 67 cs w := hx _ (List.mem_singleton.2 rfl)
    have := hb.cell (0 + i * 4 + j) u (by
      have e := instC_get rs i j hi hj
      rw [hu, ← ht, List.getElem?_take, if_pos (by omega)] at e
      rw [← e]
      congr 1
      omega)
    exact this
theorem RdX.later {w w' : World} {v : Value} {rs : List (Int × Int × Int)} (h : RdX w v rs) (b : Below w.heap.size w w') : RdX w' v rs := by
  obtain ⟨a, cap, e, H⟩ := h
  exact ⟨a, cap, e, fun i hi => by
    obtain ⟨g, o, e2, c⟩ := H i hi
    exact ⟨g, o, e2, fun j u hu => (b.cell (block_lt_of_cell (c j u hu))).trans (c j u hu)⟩⟩
set_option maxRecDepth 20000 in
set_option maxHeartbeats 2000000 in
theorem samePlanL_yes (rs : List (Int × Int × Int)) (va vb : Value) (w : World) (hl : rs.length ≤ 1000000000) (h : RdX w va rs) (h' : RdX w vb rs) : Calls Tryz.prog 32 #[va, vb] w fun e w' => e = .returned (.bool true) ∧ ∃ n, w' = w.drewN n := by
  obtain ⟨ao, cap, rfl, H⟩ := h
  obtain ⟨ao', cap', rfl, H'⟩ := h'
  obtain ⟨L, hL⟩ : ∃ L, rs.length = L := ⟨_, rfl⟩
  have C1 : Hid (∀ i, i < L → ∃ g o, ao = some ⟨g, o, none⟩ ∧ w.cell? ⟨g, o + i * 4, none⟩ = some (.int .i64 (rs.getD i (0, 0, 0)).1) ∧ w.cell? ⟨g, o + i * 4 + 1, none⟩ = some (.int .i64 (rs.getD i (0, 0, 0)).2.1) ∧ w.cell? ⟨g, o + i * 4 + 2, none⟩ = some (.int .i64 (rs.getD i (0, 0, 0)).2.2) ∧ w.cell? ⟨g, o + i * 4 + 3, none⟩ = some (.bool false)) := fun i hi => by
    obtain ⟨g, o, e, r⟩ := H i (by omega)
    exact ⟨g, o, e, r 0 _ rfl, r 1 _ rfl, r 2 _ rfl, r 3 _ rfl⟩
  have C2 : Hid (∀ i, i < L → ∃ g o, ao' = some ⟨g, o, none⟩ ∧ w.cell? ⟨g, o + i * 4, none⟩ = some (.int .i64 (rs.getD i (0, 0, 0)).1) ∧ w.cell? ⟨g, o + i * 4 + 1, none⟩ = some (.int .i64 (rs.getD i (0, 0, 0)).2.1) ∧ w.cell? ⟨g, o + i * 4 + 2, none⟩ = some (.int .i64 (rs.getD i (0, 0, 0)).2.2) ∧ w.cell? ⟨g, o + i * 4 + 3, none⟩ = some (.bool false)) := fun i hi => by
    obtain ⟨g, o, e, r⟩ := H' i (by omega)
    exact ⟨g, o, e, r 0 _ rfl, r 1 _ rfl, r 2 _ rfl, r 3 _ rfl⟩
  rw [hL] at hl ⊢
  have K1 : Hid (∀ i, i < L → i ≤ 1000000000) := fun i hi => by omega
  clear H H' hL
  have e0 : ((L : Int) != (L : Int)) = false := by simp
  go_enter Tryz.func32, Tryz.ntmps32
  go_wp2_with fail
  go_loopw [5] (fun vk wr => ∃ k n : Nat, vk = .int .i64 (k : Int) ∧ k ≤ L ∧ wr = w.drewN n) (fun vk _ => L - (intOf vk).toNat)
  case atStart => exact ⟨0, 0, rfl, by omega, rfl⟩
  case round =>
    obtain ⟨k, n, rfl, hk, rfl⟩ := hrel
    by_cases hlt : (k : Int) < (L : Int)
    · obtain ⟨g, o, rfl, a0, a1, a2, a3⟩ := C1.out k (by omega)
      obtain ⟨g', o', rfl, b0, b1, b2, b3⟩ := C2.out k (by omega)
      clear C1 C2
      generalize (rs.getD k (0, 0, 0)).1 = xd at *
      generalize (rs.getD k (0, 0, 0)).2.1 = xi at *
      generalize (rs.getD k (0, 0, 0)).2.2 = xp at *
      have q0 : (xd == xd) = true := by simp
      have q1 : (xi == xi) = true := by simp
      have q2 : (xp == xp) = true := by simp
      go_wp2_with fail
      go_quiet (fail)
      go_wp2_with fail
      go_roundw
      case rel => exact ⟨k + 1, _, by go_num, by omega, rfl⟩
      case measure => simp [intOf]; omega
    · clear C1 C2
      go_wp2_with fail
      go_ret
      exact ⟨rfl, n, rfl⟩
end Go.Proofs.YtgdmkcbbomfmdaaGreatDoor

namespace Go.Proofs.YtgdmkcbbomfmdaaGreatDoor
open Go.RowKit LedM PolM CoM LoM

/-- A struct that is equal to itself. -/
def EqS (t : TypeId) (X : List Value) : Prop := ∀ w, (Op.equalIn 10000 t (.agg X.toArray) (.agg X.toArray)).run Tryz.prog w = .ok true w
section
variable {ops : Array Oper}
theorem step_neqS {rest : List Oper} {op : Oper} {a : Act} {w : World} {Q : Exit → Act → World → Prop} (hw : Region.wanted op (yielded ops a.tmps) = true) (t t' : TypeId) (x y : Operand) (ho : op.op = .binOp .neq t x y t') (X : List Value) (hx : a.eval x = .agg X.toArray) (hy : a.eval y = .agg X.toArray) (hg : Tryz.prog.eqGuardType Tryz.prog.depth t = false) (he : EqS t X)
    (h : wpList Tryz.prog ops Q rest (a.put op.dst (.bool false)) w) : wpList Tryz.prog ops Q (op :: rest) a w :=
  BigFrame.wpList_want hw fun _ hK => by
    unfold Oper.wp execOp
    simp only [ho, hx, hy, Sem.run_bind, run_eqGuard_agg w _ _ _ _ _ _ hg, Result.andThen_ok, run_neq_struct, he w]
    exact hK _ _ h
theorem step_eqlS {rest : List Oper} {op : Oper} {a : Act} {w : World} {Q : Exit → Act → World → Prop} (hw : Region.wanted op (yielded ops a.tmps) = true) (t t' : TypeId) (x y : Operand) (ho : op.op = .binOp .eql t x y t') (X : List Value) (hx : a.eval x = .agg X.toArray) (hy : a.eval y = .agg X.toArray) (hg : Tryz.prog.eqGuardType Tryz.prog.depth t = false) (he : EqS t X)
    (h : wpList Tryz.prog ops Q rest (a.put op.dst (.bool true)) w) : wpList Tryz.prog ops Q (op :: rest) a w :=
  BigFrame.wpList_want hw fun _ hK => by
    unfold Oper.wp execOp
    simp only [ho, hx, hy, Sem.run_bind, run_eqGuard_agg w _ _ _ _ _ _ hg, Result.andThen_ok, run_eql_struct, he w]
    exact hK _ _ h
end
theorem infoTm (l : List Int) : (Tryz.prog.info? 26).map (·.size) = some (i6 l).length := by show _ = some 6; kernel_rfl
theorem infoBo (l : List Int) : (Tryz.prog.info? 31).map (·.size) = some (i12 l).length := by show _ = some 12; kernel_rfl
theorem infoCa (c : Cs) : (Tryz.prog.info? 33).map (·.size) = some (csL c).length := by show _ = some 15; kernel_rfl
theorem infoPa (l : List Int) : (Tryz.prog.info? 35).map (·.size) = some (i5 l).length := by show _ = some 5; kernel_rfl

set_option maxRecDepth 20000 in
set_option maxHeartbeats 4000000 in
theorem sameLn_yes (L : Lo) (va vb : Value) (rs : List (Int × Int × Int)) (w : World) (hl : rs.length ≤ 1000000000) (hB : ∀ i, i64 (L.bk.getD i 0)) (ha : RdX w va rs) (hb : RdX w vb rs) :
    Calls Tryz.prog 12 #[.agg (lnL { L with pl := va }).toArray, .agg (lnL { L with pl := vb }).toArray] w fun e w' => e = .returned (.bool true) ∧ Below w.heap.size w w' := by
  have SP : Hid (∀ W, Below w.heap.size w W → Calls Tryz.prog 32 #[va, vb] W fun e w' => e = .returned (.bool true) ∧ ∃ n, w' = W.drewN n) := fun W hh => samePlanL_yes rs va vb W hl (ha.later hh) (hb.later hh)
  obtain ⟨aa, ac, rfl, -⟩ := ha
  obtain ⟨ba, bc, rfl, -⟩ := hb
  obtain ⟨NN, hNN⟩ : ∃ n, rs.length = n := ⟨_, rfl⟩
  rw [hNN] at SP ⊢
  clear hNN
  have E1 : Hid (EqS 26 (i6 L.tm)) := fun w => ltm_same L.tm w
  have E3 : Hid (EqS 31 (i12 L.bk)) := fun w => lbk_same L.bk hB w
  have E4 : Hid (EqS 33 (csL L.cs)) := fun w => lcs_same L.cs w
  have E8 : Hid (EqS 35 (i5 L.la)) := fun w => lpa_same L.la w
  have BX : Hid (Blk w.heap.size 37 (lnL { L with pl := .slice aa NN ac }) ((w.alloc (.cells (lnL { L with pl := .slice aa NN ac }).toArray 37)).alloc (.cells (lnL { L with pl := .slice ba NN bc }).toArray 37))) := (Blk.new 37 _ w).old _
  have BY : Hid (Blk (w.heap.size + 1) 37 (lnL { L with pl := .slice ba NN bc }) ((w.alloc (.cells (lnL { L with pl := .slice aa NN ac }).toArray 37)).alloc (.cells (lnL { L with pl := .slice ba NN bc }).toArray 37))) := Blk.new2 37 _ w _
  have BW : Hid (Below w.heap.size w ((w.alloc (.cells (lnL { L with pl := .slice aa NN ac }).toArray 37)).alloc (.cells (lnL { L with pl := .slice ba NN bc }).toArray 37))) := below_trans (below_alloc _ _) (below_alloc _ _)
  clear hl hB
  go_enter Tryz.func12, Tryz.ntmps12
  go_upto_region 1 with fail
  generalize ((w.alloc (.cells (lnL { L with pl := .slice aa NN ac }).toArray 37)).alloc (.cells (lnL { L with pl := .slice ba NN bc }).toArray 37)) = W0 at *
  obtain ⟨X, hX⟩ : ∃ X, w.heap.size = X := ⟨_, rfl⟩
  rw [hX] at BX BY ⊢
  have HXX : Hid (w.heap.size = X) := hX
  clear hX
  have c0 : W0.cell? ⟨X, 0, none⟩ = some (.int .i64 L.id) := BX.out.cell 0 _ rfl
  have d0 : W0.cell? ⟨X + 1, 0, none⟩ = some (.int .i64 L.id) := BY.out.cell 0 _ rfl
  have c1 : W0.cell? ⟨X, 35, none⟩ = some (.int .i64 L.dy) := BX.out.cell 35 _ rfl
  have d1 : W0.cell? ⟨X + 1, 35, none⟩ = some (.int .i64 L.dy) := BY.out.cell 35 _ rfl
  have c2 : W0.cell? ⟨X, 36, none⟩ = some (.int .i64 L.ca) := BX.out.cell 36 _ rfl
  have d2 : W0.cell? ⟨X + 1, 36, none⟩ = some (.int .i64 L.ca) := BY.out.cell 36 _ rfl
  have c3 : W0.cell? ⟨X, 37, none⟩ = some (.int .i64 L.ap) := BX.out.cell 37 _ rfl
  have d3 : W0.cell? ⟨X + 1, 37, none⟩ = some (.int .i64 L.ap) := BY.out.cell 37 _ rfl
  have c4 : W0.cell? ⟨X, 43, none⟩ = some (.bool L.hl) := BX.out.cell 43 _ rfl
  have d4 : W0.cell? ⟨X + 1, 43, none⟩ = some (.bool L.hl) := BY.out.cell 43 _ rfl
  have c5 : W0.cell? ⟨X, 44, none⟩ = some (.int .i64 L.co) := BX.out.cell 44 _ rfl
  have d5 : W0.cell? ⟨X + 1, 44, none⟩ = some (.int .i64 L.co) := BY.out.cell 44 _ rfl
  have c6 : W0.cell? ⟨X, 45, none⟩ = some (.int .i64 L.tr) := BX.out.cell 45 _ rfl
  have d6 : W0.cell? ⟨X + 1, 45, none⟩ = some (.int .i64 L.tr) := BY.out.cell 45 _ rfl
  have cp : W0.cell? ⟨X, 7, none⟩ = some (.slice aa NN ac) := BX.out.cell 7 _ rfl
  have dp : W0.cell? ⟨X + 1, 7, none⟩ = some (.slice ba NN bc) := BY.out.cell 7 _ rfl
  have RX1 : Hid (∀ n, (W0.drewN n).rangeAt X 1 (i6 L.tm)) := fun n => BX.out.range 1 6
  have RY1 : Hid (∀ n, (W0.drewN n).rangeAt (X + 1) 1 (i6 L.tm)) := fun n => BY.out.range 1 6
  have RX3 : Hid (∀ n, (W0.drewN n).rangeAt X 8 (i12 L.bk)) := fun n => BX.out.range 8 12
  have RY3 : Hid (∀ n, (W0.drewN n).rangeAt (X + 1) 8 (i12 L.bk)) := fun n => BY.out.range 8 12
  have RX4 : Hid (∀ n, (W0.drewN n).rangeAt X 20 (csL L.cs)) := fun n => BX.out.range 20 15
  have RY4 : Hid (∀ n, (W0.drewN n).rangeAt (X + 1) 20 (csL L.cs)) := fun n => BY.out.range 20 15
  have RX8 : Hid (∀ n, (W0.drewN n).rangeAt X 38 (i5 L.la)) := fun n => BX.out.range 38 5
  have RY8 : Hid (∀ n, (W0.drewN n).rangeAt (X + 1) 38 (i5 L.la)) := fun n => BY.out.range 38 5
  generalize L.id = xid at *
  generalize L.dy = xdy at *
  generalize L.ca = xca at *
  generalize L.ap = xap at *
  generalize L.hl = xhl at *
  generalize L.co = xco at *
  generalize L.tr = xtr at *
  have nid : (xid != xid) = false := by simp
  have eid : (xid == xid) = true := by simp
  have ndy : (xdy != xdy) = false := by simp
  have edy : (xdy == xdy) = true := by simp
  have nca : (xca != xca) = false := by simp
  have eca : (xca == xca) = true := by simp
  have nap : (xap != xap) = false := by simp
  have eap : (xap == xap) = true := by simp
  have nhl : (xhl != xhl) = false := by simp
  have ehl : (xhl == xhl) = true := by simp
  have nco : (xco != xco) = false := by simp
  have eco : (xco == xco) = true := by simp
  have ntr : (xtr != xtr) = false := by simp
  have etr : (xtr == xtr) = true := by simp
  clear BX BY
  go_wp2_with (first
    | (refine step_loadG rfl 26 _ rfl X 1 rfl (i6 L.tm) _ (RX1.out 0) Tryz.underlying26 rfl (infoTm _) ?_)
    | (refine step_loadG rfl 26 _ rfl (X + 1) 1 rfl (i6 L.tm) _ (RY1.out 0) Tryz.underlying26 rfl (infoTm _) ?_)
    | (refine step_neqS rfl 26 _ _ _ rfl (i6 L.tm) rfl rfl (by kernel_rfl) E1.out ?_)
    | (refine step_loadG rfl 31 _ rfl X 8 rfl (i12 L.bk) _ (RX3.out 0) Tryz.underlying31 rfl (infoBo _) ?_)
    | (refine step_loadG rfl 31 _ rfl (X + 1) 8 rfl (i12 L.bk) _ (RY3.out 0) Tryz.underlying31 rfl (infoBo _) ?_)
    | (refine step_neqS rfl 31 _ _ _ rfl (i12 L.bk) rfl rfl (by kernel_rfl) E3.out ?_)
    | (refine step_loadG rfl 33 _ rfl X 20 rfl (csL L.cs) _ (RX4.out 0) Tryz.underlying33 rfl (infoCa _) ?_)
    | (refine step_loadG rfl 33 _ rfl (X + 1) 20 rfl (csL L.cs) _ (RY4.out 0) Tryz.underlying33 rfl (infoCa _) ?_)
    | (refine step_neqS rfl 33 _ _ _ rfl (csL L.cs) rfl rfl (by kernel_rfl) E4.out ?_))
  refine (SP.out W0 BW.out).mono ?_
  rintro e w3 ⟨rfl, n, rfl⟩
  clear SP
  go_wp2_with (first
    | (refine step_loadG rfl 35 _ rfl X 38 rfl (i5 L.la) _ (RX8.out n) Tryz.underlying35 rfl (infoPa _) ?_)
    | (refine step_loadG rfl 35 _ rfl (X + 1) 38 rfl (i5 L.la) _ (RY8.out n) Tryz.underlying35 rfl (infoPa _) ?_)
    | (refine step_eqlS rfl 35 _ _ _ rfl (i5 L.la) rfl rfl (by kernel_rfl) E8.out ?_))
  go_ret
  exact ⟨rfl, below_drewN BW.out n⟩

set_option maxRecDepth 20000 in
set_option maxHeartbeats 4000000 in
theorem sameOu_yes (L : Lo) (va vb : Value) (pa : List Int) (k : Int) (rs : List (Int × Int × Int)) (w : World) (hl : rs.length ≤ 1000000000) (hB : ∀ i, i64 (L.bk.getD i 0)) (ha : RdX w va rs) (hb : RdX w vb rs) :
    Calls Tryz.prog 6 #[.agg (ouL { L with pl := va } pa (.slice none 0 0) k).toArray, .agg (ouL { L with pl := vb } pa (.slice none 0 0) k).toArray] w fun e w' => e = .returned (.bool true) ∧ Below w.heap.size w w' := by
  have SP : Hid (∀ W, Below w.heap.size w W → Calls Tryz.prog 12 #[.agg (lnL { L with pl := va }).toArray, .agg (lnL { L with pl := vb }).toArray] W fun e w' => e = .returned (.bool true) ∧ Below W.heap.size W w') := fun W hh => sameLn_yes L va vb rs W hl hB (ha.later hh) (hb.later hh)
  obtain ⟨aa, ac, rfl, -⟩ := ha
  obtain ⟨ba, bc, rfl, -⟩ := hb
  obtain ⟨NN, hNN⟩ : ∃ n, rs.length = n := ⟨_, rfl⟩
  rw [hNN] at SP ⊢
  clear hNN
  have E8 : Hid (EqS 35 (i5 pa)) := fun w => lpa_same pa w
  have BX : Hid (Blk w.heap.size 41 (ouL { L with pl := .slice aa NN ac } pa (.slice none 0 0) k) ((w.alloc (.cells (ouL { L with pl := .slice aa NN ac } pa (.slice none 0 0) k).toArray 41)).alloc (.cells (ouL { L with pl := .slice ba NN bc } pa (.slice none 0 0) k).toArray 41))) := (Blk.new 41 _ w).old _
  have BY : Hid (Blk (w.heap.size + 1) 41 (ouL { L with pl := .slice ba NN bc } pa (.slice none 0 0) k) ((w.alloc (.cells (ouL { L with pl := .slice aa NN ac } pa (.slice none 0 0) k).toArray 41)).alloc (.cells (ouL { L with pl := .slice ba NN bc } pa (.slice none 0 0) k).toArray 41))) := Blk.new2 41 _ w _
  have BW : Hid (Below w.heap.size w ((w.alloc (.cells (ouL { L with pl := .slice aa NN ac } pa (.slice none 0 0) k).toArray 41)).alloc (.cells (ouL { L with pl := .slice ba NN bc } pa (.slice none 0 0) k).toArray 41))) := below_trans (below_alloc _ _) (below_alloc _ _)
  clear hl hB
  go_enter Tryz.func6, Tryz.ntmps6
  go_upto_region 1 with fail
  generalize ((w.alloc (.cells (ouL { L with pl := .slice aa NN ac } pa (.slice none 0 0) k).toArray 41)).alloc (.cells (ouL { L with pl := .slice ba NN bc } pa (.slice none 0 0) k).toArray 41)) = W0 at *
  obtain ⟨X, hX⟩ : ∃ X, w.heap.size = X := ⟨_, rfl⟩
  rw [hX] at BX BY ⊢
  have HXX : Hid (w.heap.size = X) := hX
  clear hX
  have c0 : W0.cell? ⟨X, 52, none⟩ = some (.int .i64 k) := BX.out.cell 52 _ rfl
  have d0 : W0.cell? ⟨X + 1, 52, none⟩ = some (.int .i64 k) := BY.out.cell 52 _ rfl
  have c1 : W0.cell? ⟨X, 51, none⟩ = some (.slice none 0 0) := BX.out.cell 51 _ rfl
  have d1 : W0.cell? ⟨X + 1, 51, none⟩ = some (.slice none 0 0) := BY.out.cell 51 _ rfl
  have RX8 : Hid (W0.rangeAt X 46 (i5 pa)) := BX.out.range 46 5
  have RY8 : Hid (W0.rangeAt (X + 1) 46 (i5 pa)) := BY.out.range 46 5
  have RXL : Hid (W0.rangeAt X 0 (lnL { L with pl := .slice aa NN ac })) := BX.out.range 0 46
  have RYL : Hid (W0.rangeAt (X + 1) 0 (lnL { L with pl := .slice ba NN bc })) := BY.out.range 0 46
  have IA : Hid ((Tryz.prog.info? 37).map (·.size) = some (lnL { L with pl := .slice aa NN ac }).length) := sizeLn _
  have IB : Hid ((Tryz.prog.info? 37).map (·.size) = some (lnL { L with pl := .slice ba NN bc }).length) := sizeLn _
  have nk : (k != k) = false := by simp
  have SC : Hid (Calls Tryz.prog 12 #[.agg (lnL { L with pl := .slice aa NN ac }).toArray, .agg (lnL { L with pl := .slice ba NN bc }).toArray] W0 fun e w' => e = .returned (.bool true) ∧ Below W0.heap.size W0 w') := SP.out W0 BW.out
  have CXN : Hid (∀ W, Below W0.heap.size W0 W → W.cell? ⟨X, 51, none⟩ = some (.slice none 0 0)) := fun W b => (b.cell (p := ⟨X, 51, none⟩) BX.out.lt).trans (BX.out.cell 51 _ rfl)
  clear BX BY SP
  generalize lnL { L with pl := .slice aa NN ac } = lna at *
  generalize lnL { L with pl := .slice ba NN bc } = lnb at *
  go_wp2_with (first
    | (refine step_loadG rfl 35 _ rfl X 46 rfl (i5 pa) _ RX8.out Tryz.underlying35 rfl (infoPa _) ?_)
    | (refine step_loadG rfl 35 _ rfl (X + 1) 46 rfl (i5 pa) _ RY8.out Tryz.underlying35 rfl (infoPa _) ?_)
    | (refine step_neqS rfl 35 _ _ _ rfl (i5 pa) rfl rfl (by kernel_rfl) E8.out ?_)
    | (refine step_loadG rfl 37 _ rfl X 0 rfl lna _ RXL.out Tryz.underlying37 rfl IA.out ?_)
    | (refine step_loadG rfl 37 _ rfl (X + 1) 0 rfl lnb _ RYL.out Tryz.underlying37 rfl IB.out ?_))
  refine SC.out.mono ?_
  rintro e w3 ⟨rfl, b3⟩
  have CN : Hid (w3.cell? ⟨X, 51, none⟩ = some (.slice none 0 0)) := CXN.out w3 b3
  have BW3 : Hid (Below w.heap.size w w3) := below_trans BW.out b3
  have cn := CN.out
  clear SC CXN b3 BW RXL RYL RX8 RY8 c0 d0 c1 d1 E8 IA IB
  go_wp2_with fail
  go_loop [5] (fun i => i = .int .i64 0) (fun _ => 0)
  case atStart => rfl
  case round =>
    subst hrel
    go_wp2_with fail
    go_ret
    exact ⟨rfl, BW3.out⟩
end Go.Proofs.YtgdmkcbbomfmdaaGreatDoor
