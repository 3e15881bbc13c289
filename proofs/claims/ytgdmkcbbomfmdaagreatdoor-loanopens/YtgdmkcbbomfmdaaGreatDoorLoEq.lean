/-
  Ours: terms, cases, parts beside themselves.
-/
import Derived.Test.YtgdmkcbbomfmdaaGreatDoorLoGra
import Derived.Laws.StructEq
import Derived.DeepKeys
namespace Go.Proofs.YtgdmkcbbomfmdaaGreatDoor
open Go.RowKit LedM PolM CoM LoM
set_option maxRecDepth 20000 in
theorem lcs_same (c : Cs) (w : World) : (Op.equalIn 10000 33 (.agg (csL c).toArray) (.agg (csL c).toArray)).run Tryz.prog w = .ok true w := by
  have u3 := Tryz.underlying3
  have u2 := Tryz.underlying2
  have u4 := Tryz.underlying4
  have a3 : ∀ w, (isAgg 3).run Tryz.prog w = .ok false w := fun w => by unfold isAgg; rw [Sem.run_bind, run_underlying u3 w]; rfl
  have a2 : ∀ w, (isAgg 2).run Tryz.prog w = .ok false w := fun w => by unfold isAgg; rw [Sem.run_bind, run_underlying u2 w]; rfl
  have a4 : ∀ w, (isAgg 4).run Tryz.prog w = .ok false w := fun w => by unfold isAgg; rw [Sem.run_bind, run_underlying u4 w]; rfl
  have z3 : (Tryz.prog.info? 3).map (·.size) = some 1 := by kernel_rfl
  have z2 : (Tryz.prog.info? 2).map (·.size) = some 1 := by kernel_rfl
  have z4 : (Tryz.prog.info? 4).map (·.size) = some 1 := by kernel_rfl
  have s3 : ∀ w, (sizeOf 3).run Tryz.prog w = .ok 1 w := fun w => by
    cases hq : Tryz.prog.info? 3 with
    | none => simp [hq] at z3
    | some i => have : i.size = 1 := by simpa [hq] using z3
                simp [sizeOf, typeInfo, hq, this]
  have s2 : ∀ w, (sizeOf 2).run Tryz.prog w = .ok 1 w := fun w => by
    cases hq : Tryz.prog.info? 2 with
    | none => simp [hq] at z2
    | some i => have : i.size = 1 := by simpa [hq] using z2
                simp [sizeOf, typeInfo, hq, this]
  have s4 : ∀ w, (sizeOf 4).run Tryz.prog w = .ok 1 w := fun w => by
    cases hq : Tryz.prog.info? 4 with
    | none => simp [hq] at z4
    | some i => have : i.size = 1 := by simpa [hq] using z4
                simp [sizeOf, typeInfo, hq, this]
  have hS : Tryz.prog.underlying 33 = some (.struct (Tryz.prog.fieldsOf 33)) := by kernel_rfl
  have hp : Tryz.prog.stoodInHeld 33 = false := by kernel_rfl
  simp only [csL]
  rw [show (10000 : Nat) = 9999 + 1 from rfl, run_equalIn_agg w 9999 33 _ _ hS hp]
  simp only [Program.fieldsOf, Tryz.underlying33]
  go_simp
set_option maxRecDepth 20000 in
theorem ltm_same (l : List Int) (w : World) : (Op.equalIn 10000 26 (.agg (i6 l).toArray) (.agg (i6 l).toArray)).run Tryz.prog w = .ok true w := by
  have u3 := Tryz.underlying3
  have u2 := Tryz.underlying2
  have u4 := Tryz.underlying4
  have a3 : ∀ w, (isAgg 3).run Tryz.prog w = .ok false w := fun w => by unfold isAgg; rw [Sem.run_bind, run_underlying u3 w]; rfl
  have a2 : ∀ w, (isAgg 2).run Tryz.prog w = .ok false w := fun w => by unfold isAgg; rw [Sem.run_bind, run_underlying u2 w]; rfl
  have a4 : ∀ w, (isAgg 4).run Tryz.prog w = .ok false w := fun w => by unfold isAgg; rw [Sem.run_bind, run_underlying u4 w]; rfl
  have z3 : (Tryz.prog.info? 3).map (·.size) = some 1 := by kernel_rfl
  have z2 : (Tryz.prog.info? 2).map (·.size) = some 1 := by kernel_rfl
  have z4 : (Tryz.prog.info? 4).map (·.size) = some 1 := by kernel_rfl
  have s3 : ∀ w, (sizeOf 3).run Tryz.prog w = .ok 1 w := fun w => by
    cases hq : Tryz.prog.info? 3 with
    | none => simp [hq] at z3
    | some i => have : i.size = 1 := by simpa [hq] using z3
                simp [sizeOf, typeInfo, hq, this]
  have s2 : ∀ w, (sizeOf 2).run Tryz.prog w = .ok 1 w := fun w => by
    cases hq : Tryz.prog.info? 2 with
    | none => simp [hq] at z2
    | some i => have : i.size = 1 := by simpa [hq] using z2
                simp [sizeOf, typeInfo, hq, this]
  have s4 : ∀ w, (sizeOf 4).run Tryz.prog w = .ok 1 w := fun w => by
    cases hq : Tryz.prog.info? 4 with
    | none => simp [hq] at z4
    | some i => have : i.size = 1 := by simpa [hq] using z4
                simp [sizeOf, typeInfo, hq, this]
  have hS : Tryz.prog.underlying 26 = some (.struct (Tryz.prog.fieldsOf 26)) := by kernel_rfl
  have hp : Tryz.prog.stoodInHeld 26 = false := by kernel_rfl
  simp only [i6]
  rw [show (10000 : Nat) = 9999 + 1 from rfl, run_equalIn_agg w 9999 26 _ _ hS hp]
  simp only [Program.fieldsOf, Tryz.underlying26]
  go_simp
set_option maxRecDepth 20000 in
theorem lpa_same (l : List Int) (w : World) : (Op.equalIn 10000 35 (.agg (i5 l).toArray) (.agg (i5 l).toArray)).run Tryz.prog w = .ok true w := by
  have u3 := Tryz.underlying3
  have u2 := Tryz.underlying2
  have u4 := Tryz.underlying4
  have a3 : ∀ w, (isAgg 3).run Tryz.prog w = .ok false w := fun w => by unfold isAgg; rw [Sem.run_bind, run_underlying u3 w]; rfl
  have a2 : ∀ w, (isAgg 2).run Tryz.prog w = .ok false w := fun w => by unfold isAgg; rw [Sem.run_bind, run_underlying u2 w]; rfl
  have a4 : ∀ w, (isAgg 4).run Tryz.prog w = .ok false w := fun w => by unfold isAgg; rw [Sem.run_bind, run_underlying u4 w]; rfl
  have z3 : (Tryz.prog.info? 3).map (·.size) = some 1 := by kernel_rfl
  have z2 : (Tryz.prog.info? 2).map (·.size) = some 1 := by kernel_rfl
  have z4 : (Tryz.prog.info? 4).map (·.size) = some 1 := by kernel_rfl
  have s3 : ∀ w, (sizeOf 3).run Tryz.prog w = .ok 1 w := fun w => by
    cases hq : Tryz.prog.info? 3 with
    | none => simp [hq] at z3
    | some i => have : i.size = 1 := by simpa [hq] using z3
                simp [sizeOf, typeInfo, hq, this]
  have s2 : ∀ w, (sizeOf 2).run Tryz.prog w = .ok 1 w := fun w => by
    cases hq : Tryz.prog.info? 2 with
    | none => simp [hq] at z2
    | some i => have : i.size = 1 := by simpa [hq] using z2
                simp [sizeOf, typeInfo, hq, this]
  have s4 : ∀ w, (sizeOf 4).run Tryz.prog w = .ok 1 w := fun w => by
    cases hq : Tryz.prog.info? 4 with
    | none => simp [hq] at z4
    | some i => have : i.size = 1 := by simpa [hq] using z4
                simp [sizeOf, typeInfo, hq, this]
  have hS : Tryz.prog.underlying 35 = some (.struct (Tryz.prog.fieldsOf 35)) := by kernel_rfl
  have hp : Tryz.prog.stoodInHeld 35 = false := by kernel_rfl
  simp only [i5]
  rw [show (10000 : Nat) = 9999 + 1 from rfl, run_equalIn_agg w 9999 35 _ _ hS hp]
  simp only [Program.fieldsOf, Tryz.underlying35]
  go_simp
theorem lwf64 {x : Int} (h : i64 x) : (Lit.int .i64 x).wf = true := by
  have h1 : IntKind.i64.min = -9223372036854775808 := by decide
  have h2 : IntKind.i64.max = 9223372036854775807 := by decide
  simp only [Lit.wf, h1, h2, Bool.and_eq_true, decide_eq_true_eq]
  exact h
set_option maxRecDepth 20000 in
theorem lbk_same (m : List Int) (hw : ∀ i, i64 (m.getD i 0)) (w : World) : (Op.equalIn 10000 31 (.agg (i12 m).toArray) (.agg (i12 m).toArray)).run Tryz.prog w = .ok true w := by
  have f := fun i => lwf64 (hw i)
  unfold i12
  have a0 := f 0
  have a1 := f 1
  have a2 := f 2
  have a3 := f 3
  have a4 := f 4
  have a5 := f 5
  have a6 := f 6
  have a7 := f 7
  have a8 := f 8
  have a9 := f 9
  have a10 := f 10
  have a11 := f 11
  generalize m.getD 0 0 = x0 at *
  generalize m.getD 1 0 = x1 at *
  generalize m.getD 2 0 = x2 at *
  generalize m.getD 3 0 = x3 at *
  generalize m.getD 4 0 = x4 at *
  generalize m.getD 5 0 = x5 at *
  generalize m.getD 6 0 = x6 at *
  generalize m.getD 7 0 = x7 at *
  generalize m.getD 8 0 = x8 at *
  generalize m.getD 9 0 = x9 at *
  generalize m.getD 10 0 = x10 at *
  generalize m.getD 11 0 = x11 at *
  have c1 : Tryz.prog.cellsOf 31 = 12 := by kernel_rfl
  have c3 : Tryz.prog.cellsOf 2 = 1 := by kernel_rfl
  have c4 : Tryz.prog.cellsOf 29 = 12 := by kernel_rfl
  have E := run_equalIn_deep (P := Tryz.prog) 9997 3 31 (by kernel_rfl)
  have fx : (Value.agg #[Value.int .i64 x0, Value.int .i64 x1, Value.int .i64 x2, Value.int .i64 x3, Value.int .i64 x4, Value.int .i64 x5, Value.int .i64 x6, Value.int .i64 x7, Value.int .i64 x8, Value.int .i64 x9, Value.int .i64 x10, Value.int .i64 x11]).formed Tryz.prog 31 = true := by simp [Value.formed, Tryz.underlying31, c1]
  have kx : Tryz.prog.keyLits 3 31 [Value.int .i64 x0, Value.int .i64 x1, Value.int .i64 x2, Value.int .i64 x3, Value.int .i64 x4, Value.int .i64 x5, Value.int .i64 x6, Value.int .i64 x7, Value.int .i64 x8, Value.int .i64 x9, Value.int .i64 x10, Value.int .i64 x11] = some [.int .i64 x0, .int .i64 x1, .int .i64 x2, .int .i64 x3, .int .i64 x4, .int .i64 x5, .int .i64 x6, .int .i64 x7, .int .i64 x8, .int .i64 x9, .int .i64 x10, .int .i64 x11] := by
    simp [Program.keyLits, Tryz.underlying2, c1, c3, c4, Tryz.underlying29, List.range_succ, Tryz.underlying31, a0, a1, a2, a3, a4, a5, a6, a7, a8, a9, a10, a11]
  obtain ⟨r, h1, h2⟩ := E w 3 3 _ _ _ _ fx fx (by simpa [Value.cells] using kx) (by simpa [Value.cells] using kx)
  have e := h2.2 rfl
  subst e
  exact h1
end Go.Proofs.YtgdmkcbbomfmdaaGreatDoor
