/-
  Ours: the tables that the rows of Parse list, as the walks ask them.
-/
import Derived.Test.YtnjpmihffenkcaaDoorLbTabF
import Derived.Test.YtnjpmihffenkcaaDoorLbPar
namespace Go.Proofs.YtnjpmihffenkcaaDoor
open Go.ChangeShapes Go.WideShapes Go.ChangeAt Go.RowKit LbM LbF CalM
abbrev lstD : List (String × DataW Unit) := [("math/bits.deBruijn32tab", Rows.laid_math_bits_deBruijn32tab), ("math/bits.deBruijn64tab", Rows.laid_math_bits_deBruijn64tab), ("internal/strconv.uint64pow10", Rows.laid_internal_strconv_uint64pow10), ("errors.errorType", Rows.laid_errors_errorType), ("arrears/calendar.lengths", Rows.laid_arrears_calendar_lengths), ("arrears/calendar.ahead", Rows.laid_arrears_calendar_ahead), ("arrears/lockbox.forms", Rows.laid_arrears_lockbox_forms)]
theorem as_et : Tryd.prog.globalNamed "errors.errorType" = some 0 := by kernel_rfl
theorem as_rt : (Tryd.prog.cutTypes.find? (·.1 == "internal/reflectlite.rtype")).map (·.2) = some 123 := by kernel_rfl
theorem as_oneRow : ((List.range 186).filter fun t => Tryd.prog.rowNamed t [101, 114, 114, 111, 114]) = [61] := by kernel_rfl
theorem as_tsize : Tryd.prog.types.size = 186 := by kernel_rfl
/-- What the walks of Parse ask of the heap. -/
structure ParW (w : World) : Prop where
  b : LbW w
  l : TabL w
  e : w.cell? ⟨0, 0, none⟩ = some (tyV 61)
theorem tabD_of {W : World} (h0 : laidMetH Tryd.prog lstD W) : ParW W := by
  have h' : laidMet Tryd.prog [("math/bits.deBruijn32tab", Rows.laid_math_bits_deBruijn32tab), ("math/bits.deBruijn64tab", Rows.laid_math_bits_deBruijn64tab), ("internal/strconv.uint64pow10", Rows.laid_internal_strconv_uint64pow10), ("arrears/calendar.lengths", Rows.laid_arrears_calendar_lengths), ("arrears/calendar.ahead", Rows.laid_arrears_calendar_ahead), ("arrears/lockbox.forms", Rows.laid_arrears_lockbox_forms)] W ∧ handlesMet Tryd.prog [("errors.errorType", Rows.laid_errors_errorType)] W := h0
  obtain ⟨h, hh⟩ := h'
  refine ⟨⟨Lib.tabIs_of_head (zs := Lib.pow10Tab) gP (by kernel_rfl) Tryd.underlying149 Tryd.underlying143 (by kernel_rfl) (by kernel_rfl) h.tail.tail, frm_met h.tail.tail.tail.tail.tail, tabA_is (Lib.tabIs_of_head (zs := aheadT) gA tyA Tryd.underlying136 Tryd.underlying3 cellsI cellsT h.tail.tail.tail.tail)⟩, tabL_is (Lib.tabIs_of_head (zs := lengthT) gL tyL Tryd.underlying136 Tryd.underlying3 cellsI cellsT h.tail.tail.tail), ?_⟩
  obtain ⟨name, u, ty, e1, e2, e3, e4, e5⟩ := hh _ (List.mem_singleton.2 rfl)
  have en : name = [101, 114, 114, 111, 114] := (Option.some.inj e1).symm
  subst en
  obtain rfl := Option.some.inj (as_rt.symm.trans e2)
  have hm : ty ∈ (List.range 186).filter fun t => Tryd.prog.rowNamed t [101, 114, 114, 111, 114] := List.mem_filter.2 ⟨List.mem_range.2 (by rw [← as_tsize]; exact e3), e4⟩
  rw [as_oneRow] at hm
  obtain rfl := List.mem_singleton.1 hm
  have hh : typeHandle Tryd.prog 61 = .pointer (some ⟨7, 61, none⟩) := by kernel_rfl
  rw [hh] at e5
  simpa using World.var?_cell as_et e5 0
end Go.Proofs.YtnjpmihffenkcaaDoor
