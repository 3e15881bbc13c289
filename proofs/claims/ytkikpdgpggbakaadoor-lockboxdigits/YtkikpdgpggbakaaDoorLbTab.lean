/-
  Ours: what a row of lockbox wants of the seat.
-/
import Derived.Test.YtkikpdgpggbakaaDoorRows
import Derived.Lib.LaidTab
import Derived.MakeChecks
import Derived.LaidHandle
import Derived.Carry
import Derived.Stop.LaidErr
namespace Go.Proofs.YtkikpdgpggbakaaDoor
open Go.RowKit
theorem own : ownKnob Tryd.prog.godebug = none := by kernel_rfl
theorem bounds {x : Int} (h : (Lit.int .i64 x).wf = true) : -9223372036854775808 ≤ x ∧ x ≤ 9223372036854775807 := by
  simp [Lit.wf, IntKind.min, IntKind.max, IntKind.signed, IntKind.bits] at h
  exact ⟨by omega, by omega⟩

end Go.Proofs.YtkikpdgpggbakaaDoor
