/-
  Ours: a case beside itself.
-/
import Derived.Test.YtmbbigkpeefjjabCoLs
import Derived.Laws.StructEq
namespace Go.Proofs.Ytmbbigkpeefjjab
open Go.RowKit LedM PolM CoM
set_option maxRecDepth 20000 in
theorem cs_same (c : Cs) (w : World) : (Op.equalIn 10000 29 (.agg (csL c).toArray) (.agg (csL c).toArray)).run Try.prog w = .ok true w := by
  have u3 := Try.underlying3
  have u2 := Try.underlying2
  have u4 := Try.underlying4
  have a3 : ∀ w, (isAgg 3).run Try.prog w = .ok false w := fun w => by unfold isAgg; rw [Sem.run_bind, run_underlying u3 w]; rfl
  have a2 : ∀ w, (isAgg 2).run Try.prog w = .ok false w := fun w => by unfold isAgg; rw [Sem.run_bind, run_underlying u2 w]; rfl
  have a4 : ∀ w, (isAgg 4).run Try.prog w = .ok false w := fun w => by unfold isAgg; rw [Sem.run_bind, run_underlying u4 w]; rfl
  have z3 : (Try.prog.info? 3).map (·.size) = some 1 := by kernel_rfl
  have z2 : (Try.prog.info? 2).map (·.size) = some 1 := by kernel_rfl
  have z4 : (Try.prog.info? 4).map (·.size) = some 1 := by kernel_rfl
  have s3 : ∀ w, (sizeOf 3).run Try.prog w = .ok 1 w := fun w => by
    cases hq : Try.prog.info? 3 with
    | none => simp [hq] at z3
    | some i => have : i.size = 1 := by simpa [hq] using z3
                simp [sizeOf, typeInfo, hq, this]
  have s2 : ∀ w, (sizeOf 2).run Try.prog w = .ok 1 w := fun w => by
    cases hq : Try.prog.info? 2 with
    | none => simp [hq] at z2
    | some i => have : i.size = 1 := by simpa [hq] using z2
                simp [sizeOf, typeInfo, hq, this]
  have s4 : ∀ w, (sizeOf 4).run Try.prog w = .ok 1 w := fun w => by
    cases hq : Try.prog.info? 4 with
    | none => simp [hq] at z4
    | some i => have : i.size = 1 := by simpa [hq] using z4
                simp [sizeOf, typeInfo, hq, this]
  have hS : Try.prog.underlying 29 = some (.struct (Try.prog.fieldsOf 29)) := by kernel_rfl
  have hp : Try.prog.stoodInHeld 29 = false := by kernel_rfl
  simp only [csL]
  rw [show (10000 : Nat) = 9999 + 1 from rfl, run_equalIn_agg w 9999 29 _ _ hS hp]
  simp only [Program.fieldsOf, Try.underlying29]
  go_simp
theorem cs_neq (c : Cs) (w : World) : (binOp .neq 29 (.agg (csL c).toArray) (.agg (csL c).toArray)).run Try.prog w = .ok (.bool false) w := by
  rw [run_neq_struct, cs_same]; rfl
theorem cs_eql (c : Cs) (w : World) : (binOp .eql 29 (.agg (csL c).toArray) (.agg (csL c).toArray)).run Try.prog w = .ok (.bool true) w := by
  rw [run_eql_struct, cs_same]; rfl
end Go.Proofs.Ytmbbigkpeefjjab
