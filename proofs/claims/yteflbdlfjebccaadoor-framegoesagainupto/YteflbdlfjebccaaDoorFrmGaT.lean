/-
  Ours: a function value isn't nil.
-/
import Derived.Test.YteflbdlfjebccaaDoorFrmScan
namespace Go.Proofs.YteflbdlfjebccaaDoor
open Go.RowKit Go.Shelf
set_option maxRecDepth 20000 in
theorem func_nil (f : Fn) (p q : Array Value) (w : World) : (binOp .eql 28 (.func f p q) .nilFunc).run Tryd.prog w = .ok (.bool false) w := by
  have hu : ∃ d e b, Tryd.prog.underlying 28 = some (.func d e b) := ⟨_, _, _, Tryd.underlying28⟩
  obtain ⟨d, e, b, hu⟩ := hu
  have h : (Op.equal 28 (.func f p q) .nilFunc).run Tryd.prog w = .ok false w := by
    unfold Op.equal
    obtain ⟨k, hk⟩ : ∃ k, Op.maxDepth = k + 1 := ⟨Op.maxDepth - 1, by decide⟩
    rw [hk]
    unfold Op.equalIn
    rw [Sem.run_bind, run_underlying hu]
    rfl
  unfold binOp
  simp only [Sem.run_bind, h, Result.andThen]
  rfl
end Go.Proofs.YteflbdlfjebccaaDoor
