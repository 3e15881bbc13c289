/-
  Ours: the tables that the rows of Parse list, as the walks ask them.
-/
import Derived.Test.YtaalpdfaljbaiaaDoorScTabF
import Derived.Test.YtaalpdfaljbaiaaDoorScPrs
import GoSem.PinnedTables
namespace Go.Proofs.YtaalpdfaljbaiaaDoor
open Go.ChangeShapes Go.WideShapes Go.ChangeAt Go.RowKit ScF

abbrev lstD : List (String × DataW Unit) := [("math/bits.deBruijn32tab", Rows.laid_math_bits_deBruijn32tab), ("math/bits.deBruijn64tab", Rows.laid_math_bits_deBruijn64tab), ("internal/strconv.uint64pow10", Rows.laid_internal_strconv_uint64pow10), ("unicode/utf8.acceptRanges", Rows.laid_unicode_utf8_acceptRanges), ("errors.errorType", Rows.laid_errors_errorType), ("strconv.ErrRange", Rows.laid_strconv_ErrRange), ("strconv.ErrSyntax", Rows.laid_strconv_ErrSyntax), ("arrears/script.commands", Rows.laid_arrears_script_commands), ("arrears/script.plans", Rows.laid_arrears_script_plans), ("unicode/utf8.first", Rows.laid_unicode_utf8_first)]
theorem as_et : Tryd.prog.globalNamed "errors.errorType" = some 1 := by kernel_rfl
theorem as_rt : (Tryd.prog.cutTypes.find? (·.1 == "internal/reflectlite.rtype")).map (·.2) = some 103 := by kernel_rfl
theorem as_oneRow : ((List.range 198).filter fun t => Tryd.prog.rowNamed t [101, 114, 114, 111, 114]) = [56] := by kernel_rfl
theorem as_tsize : Tryd.prog.types.size = 198 := by kernel_rfl
theorem gR : Tryd.prog.globalNamed "strconv.ErrRange" = some 5 := by kernel_rfl
theorem gS : Tryd.prog.globalNamed "strconv.ErrSyntax" = some 4 := by kernel_rfl
theorem starE : "*" ++ "errors.errorString" = "*errors.errorString" := by decide
theorem rowE (u : TypeId) (h : Tryd.prog.typeName? 3 u = some "*errors.errorString") : u = 156 :=
  typeName_ptr_named (nm := "errors.errorString") (by rw [starE]; kernel_rfl) (by kernel_rfl) (by decide) u (by rw [starE]; exact h)
theorem tabD_of {W : World} (h0 : laidMetH Tryd.prog lstD W) (hS : W.ShapedOpen Tryd.prog) : PWs W := by
  have h' : laidMet Tryd.prog [("math/bits.deBruijn32tab", Rows.laid_math_bits_deBruijn32tab), ("math/bits.deBruijn64tab", Rows.laid_math_bits_deBruijn64tab), ("internal/strconv.uint64pow10", Rows.laid_internal_strconv_uint64pow10), ("unicode/utf8.acceptRanges", Rows.laid_unicode_utf8_acceptRanges), ("strconv.ErrRange", Rows.laid_strconv_ErrRange), ("strconv.ErrSyntax", Rows.laid_strconv_ErrSyntax), ("arrears/script.commands", Rows.laid_arrears_script_commands), ("arrears/script.plans", Rows.laid_arrears_script_plans), ("unicode/utf8.first", Rows.laid_unicode_utf8_first)] W ∧ handlesMet Tryd.prog [("errors.errorType", Rows.laid_errors_errorType)] W := h0
  obtain ⟨h, hh⟩ := h'
  have e3 := h.tail.tail
  have e5 := h.tail.tail.tail.tail
  have e6 := h.tail.tail.tail.tail.tail
  have e7 := h.tail.tail.tail.tail.tail.tail
  have e8 := h.tail.tail.tail.tail.tail.tail.tail
  refine ⟨Lib.tabIs_of_head (zs := Lib.pow10Tab) gPw (by kernel_rfl) Tryd.underlying138 Tryd.underlying63 (by kernel_rfl) (by kernel_rfl) e3, ?_, cmd_met e7, pln_met e8, ?_, ?_⟩
  · obtain ⟨a0, _, h0, _⟩ := laid_sentinel e5 gR (ti := 56) (by kernel_rfl) Tryd.underlying56 rowE Tryd.underlying156 Tryd.underlying158 rfl rfl Tryd.underlying9 (by kernel_rfl) (by kernel_rfl)
    obtain ⟨a1, _, h1, _⟩ := laid_sentinel e6 gS (ti := 56) (by kernel_rfl) Tryd.underlying56 rowE Tryd.underlying156 Tryd.underlying158 rfl rfl Tryd.underlying9 (by kernel_rfl) (by kernel_rfl)
    exact ⟨⟨_, _, h1⟩, ⟨_, _, h0⟩⟩
  · exact Tryd.laysM219.s1_3 W hS
  · obtain ⟨name, u, ty, e1, e2, e3, e4, e5⟩ := hh _ (List.mem_singleton.2 rfl)
    have en : name = [101, 114, 114, 111, 114] := (Option.some.inj e1).symm
    subst en
    obtain rfl := Option.some.inj (as_rt.symm.trans e2)
    have hm : ty ∈ (List.range 198).filter fun t => Tryd.prog.rowNamed t [101, 114, 114, 111, 114] := List.mem_filter.2 ⟨List.mem_range.2 (by rw [← as_tsize]; exact e3), e4⟩
    rw [as_oneRow] at hm
    obtain rfl := List.mem_singleton.1 hm
    have hh : typeHandle Tryd.prog 56 = .pointer (some ⟨11, 56, none⟩) := by kernel_rfl
    rw [hh] at e5
    simpa using World.var?_cell as_et e5 0
/-- A world for the witness: the tables as their initialisers lay them, and Go's own table of first bytes. -/
noncomputable def laidWorldP (os : Os) : World :=
  { World.doorLaid Tryd.prog 400 os with heap := (World.doorLaid Tryd.prog 400 os).heap.modify 9 fun
      | .cells _ t frozen => .cells (Go.Pinned.utf8FirstZ.map (fun n : Nat => Value.int .u8 (n : Int))).toArray t frozen
      | o => o }
end Go.Proofs.YtaalpdfaljbaiaaDoor
