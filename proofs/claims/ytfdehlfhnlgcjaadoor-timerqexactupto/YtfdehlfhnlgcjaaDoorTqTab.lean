/-
  Ours: the tables that a row lists, as the walks ask them.
-/
import Derived.Test.YtfdehlfhnlgcjaaDoorWirRow
import Derived.Test.YtfdehlfhnlgcjaaDoorTqWd
import Derived.Test.YtfdehlfhnlgcjaaDoorTie
import Derived.Test.YtfdehlfhnlgcjaaDoorCards
import Derived.LaidMore
import Derived.Stop.LaidErr
import Derived.Lib.LaidTab
import Derived.ChangeArms
import Derived.Deep.DeepHandedRow
import Derived.MakeChecks
import Derived.LaidHandle
namespace Go.Proofs.YtfdehlfhnlgcjaaDoor
open Go.ChangeShapes Go.WideShapes Go.ChangeAt Go.RowKit

abbrev lstD : List (String × DataW Unit) := [("math/bits.deBruijn32tab", Rows.laid_math_bits_deBruijn32tab), ("math/bits.deBruijn64tab", Rows.laid_math_bits_deBruijn64tab), ("internal/strconv.uint64pow10", Rows.laid_internal_strconv_uint64pow10)]
theorem tabD_of {W : World} (h : laidMetH Tryd.prog lstD W) : TabP W := by
  unfold lstD at h
  rw [Go.MakeChecks.laidMetH_plain _ _ _ (by kernel_rfl)] at h
  exact Lib.tabIs_of_head (zs := Lib.pow10Tab) gP (by kernel_rfl) Tryd.underlying121 Tryd.underlying102 (by kernel_rfl) (by kernel_rfl) h.tail.tail
/-- A world for the witness: the tables as their initialisers lay them. -/
noncomputable def laidWorld (os : Os) : World := World.doorLaid Tryd.prog 400 os
end Go.Proofs.YtfdehlfhnlgcjaaDoor
