/-
  Ours: the tables that ScriptFormats lists.
-/
import Derived.Test.YtaalpdfaljbaiaaDoorScTabF
namespace Go.Proofs.YtaalpdfaljbaiaaDoor
open Go.ChangeShapes Go.WideShapes Go.ChangeAt Go.RowKit ScF

abbrev lstD : List (String × DataW Unit) := [("math/bits.deBruijn32tab", Rows.laid_math_bits_deBruijn32tab), ("math/bits.deBruijn64tab", Rows.laid_math_bits_deBruijn64tab), ("internal/strconv.uint64pow10", Rows.laid_internal_strconv_uint64pow10), ("arrears/script.commands", Rows.laid_arrears_script_commands), ("arrears/script.plans", Rows.laid_arrears_script_plans)]
theorem tabD_of {W : World} (h : laidMetH Tryd.prog lstD W) : TabW W ∧ PlnW W ∧ CmdW W := by
  unfold lstD at h
  rw [Go.MakeChecks.laidMetH_plain _ _ _ (by kernel_rfl)] at h
  exact ⟨Lib.tabIs_of_head (zs := Lib.pow10Tab) gPw (by kernel_rfl) Tryd.underlying138 Tryd.underlying63 (by kernel_rfl) (by kernel_rfl) h.tail.tail, pln_met h.tail.tail.tail.tail, cmd_met h.tail.tail.tail⟩
end Go.Proofs.YtaalpdfaljbaiaaDoor
