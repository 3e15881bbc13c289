/-
  Ours: the tables that LockboxTells lists.
-/
import Derived.Test.YtmgjkecejloghaaDoorLbTabF
namespace Go.Proofs.YtmgjkecejloghaaDoor
open Go.ChangeShapes Go.WideShapes Go.ChangeAt Go.RowKit LbM LbF CalM
abbrev lstD : List (String × DataW Unit) := [("math/bits.deBruijn32tab", Rows.laid_math_bits_deBruijn32tab), ("math/bits.deBruijn64tab", Rows.laid_math_bits_deBruijn64tab), ("internal/strconv.uint64pow10", Rows.laid_internal_strconv_uint64pow10), ("arrears/calendar.ahead", Rows.laid_arrears_calendar_ahead), ("arrears/lockbox.forms", Rows.laid_arrears_lockbox_forms)]
theorem tabD_of {W : World} (h : laidMetH Tryd.prog lstD W) : LbW W := by
  unfold lstD at h
  rw [Go.MakeChecks.laidMetH_plain _ _ _ (by kernel_rfl)] at h
  exact ⟨Lib.tabIs_of_head (zs := Lib.pow10Tab) gP (by kernel_rfl) Tryd.underlying149 Tryd.underlying143 (by kernel_rfl) (by kernel_rfl) h.tail.tail, frm_met h.tail.tail.tail.tail, tabA_is (Lib.tabIs_of_head (zs := aheadT) gA tyA Tryd.underlying136 Tryd.underlying3 cellsI cellsT h.tail.tail.tail)⟩
end Go.Proofs.YtmgjkecejloghaaDoor
