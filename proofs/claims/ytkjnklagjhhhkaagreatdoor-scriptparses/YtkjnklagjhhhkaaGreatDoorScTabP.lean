/-
  Ours: the tables that the rows of Parse list, as the walks ask them.
-/
import Derived.Test.YtkjnklagjhhhkaaGreatDoorScTabF
import Derived.Test.YtkjnklagjhhhkaaGreatDoorScPrs
import GoSem.PinnedTables
namespace Go.Proofs.YtkjnklagjhhhkaaGreatDoor
open Go.ChangeShapes Go.WideShapes Go.ChangeAt Go.RowKit ScF

abbrev lstD : List (String × DataW Unit) := [("math/bits.deBruijn32tab", Rows.laid_math_bits_deBruijn32tab), ("math/bits.deBruijn64tab", Rows.laid_math_bits_deBruijn64tab), ("internal/strconv.uint64pow10", Rows.laid_internal_strconv_uint64pow10), ("unicode/utf8.acceptRanges", Rows.laid_unicode_utf8_acceptRanges), ("errors.errorType", Rows.laid_errors_errorType), ("strconv.ErrRange", Rows.laid_strconv_ErrRange), ("strconv.ErrSyntax", Rows.laid_strconv_ErrSyntax), ("arrears/script.commands", Rows.laid_arrears_script_commands), ("arrears/script.plans", Rows.laid_arrears_script_plans), ("unicode/utf8.first", Rows.laid_unicode_utf8_first)]
theorem as_et : Tryz.prog.globalNamed "errors.errorType" = some 1 := by kernel_rfl
theorem as_rt : (Tryz.prog.cutTypes.find? (·.1 == "internal/reflectlite.rtype")).map (·.2) = some 100 := by kernel_rfl
theorem as_oneRow : ((List.range 204).filter fun t => Tryz.prog.rowNamed t [101, 114, 114, 111, 114]) = [44] := by kernel_rfl
theorem as_tsize : Tryz.prog.types.size = 204 := by kernel_rfl
theorem gR : Tryz.prog.globalNamed "strconv.ErrRange" = some 8 := by kernel_rfl
theorem gS : Tryz.prog.globalNamed "strconv.ErrSyntax" = some 7 := by kernel_rfl
theorem starE : "*" ++ "errors.errorString" = "*errors.errorString" := by decide
theorem rowE (u : TypeId) (h : Tryz.prog.typeName? 3 u = some "*errors.errorString") : u = 173 :=
  typeName_ptr_named (nm := "errors.errorString") (by rw [starE]; kernel_rfl) (by kernel_rfl) (by decide) u (by rw [starE]; exact h)
theorem tabD_of {W : World} (h0 : laidMetH Tryz.prog lstD W) (hS : W.ShapedOpen Tryz.prog) : PWs W := by
  have h' : laidMet Tryz.prog [("math/bits.deBruijn32tab", Rows.laid_math_bits_deBruijn32tab), ("math/bits.deBruijn64tab", Rows.laid_math_bits_deBruijn64tab), ("internal/strconv.uint64pow10", Rows.laid_internal_strconv_uint64pow10), ("unicode/utf8.acceptRanges", Rows.laid_unicode_utf8_acceptRanges), ("strconv.ErrRange", Rows.laid_strconv_ErrRange), ("strconv.ErrSyntax", Rows.laid_strconv_ErrSyntax), ("arrears/script.commands", Rows.laid_arrears_script_commands), ("arrears/script.plans", Rows.laid_arrears_script_plans), ("unicode/utf8.first", Rows.laid_unicode_utf8_first)] W ∧ handlesMet Tryz.prog [("errors.errorType", Rows.laid_errors_errorType)] W := h0
  obtain ⟨h, hh⟩ := h'
  have e3 := h.tail.tail
  have e5 := h.tail.tail.tail.tail
  have e6 := h.tail.tail.tail.tail.tail
  have e7 := h.tail.tail.tail.tail.tail.tail
  have e8 := h.tail.tail.tail.tail.tail.tail.tail
  refine ⟨Lib.tabIs_of_head (zs := Lib.pow10Tab) gPw (by kernel_rfl) Tryz.underlying150 Tryz.underlying114 (by kernel_rfl) (by kernel_rfl) e3, ?_, cmd_met e7, pln_met e8, ?_, ?_⟩
  · obtain ⟨a0, _, h0, _⟩ := laid_sentinel e5 gR (ti := 44) (by kernel_rfl) Tryz.underlying44 rowE Tryz.underlying173 Tryz.underlying175 rfl rfl Tryz.underlying9 (by kernel_rfl) (by kernel_rfl)
    obtain ⟨a1, _, h1, _⟩ := laid_sentinel e6 gS (ti := 44) (by kernel_rfl) Tryz.underlying44 rowE Tryz.underlying173 Tryz.underlying175 rfl rfl Tryz.underlying9 (by kernel_rfl) (by kernel_rfl)
    exact ⟨⟨_, _, h1⟩, ⟨_, _, h0⟩⟩
  · exact Tryz.laysM219.s1_3 W hS
  · obtain ⟨name, u, ty, e1, e2, e3, e4, e5⟩ := hh _ (List.mem_singleton.2 rfl)
    have en : name = [101, 114, 114, 111, 114] := (Option.some.inj e1).symm
    subst en
    obtain rfl := Option.some.inj (as_rt.symm.trans e2)
    have hm : ty ∈ (List.range 204).filter fun t => Tryz.prog.rowNamed t [101, 114, 114, 111, 114] := List.mem_filter.2 ⟨List.mem_range.2 (by rw [← as_tsize]; exact e3), e4⟩
    rw [as_oneRow] at hm
    obtain rfl := List.mem_singleton.1 hm
    have hh : typeHandle Tryz.prog 44 = .pointer (some ⟨11, 44, none⟩) := by kernel_rfl
    rw [hh] at e5
    simpa using World.var?_cell as_et e5 0
section
variable {H : Type} {enc : TypeId × Value → H} {W : World}
theorem bytes8_open {a : Option Addr} {len cap : Nat} {d : DataW H} {ps : List MemPlace} (h : DataW.Trod enc Tryz.prog W 0 (fun _ => true) true 22 (.slice a len cap) d ps) : ∃ l : List UInt8, Rd W (.slice a len cap) (Lib.byteCells l) ∧ l.length ≤ maxLen ∧ l.length = len := by
  obtain ⟨bs, h1, h2, h3, -⟩ := bytes_open Tryz.underlying22 Tryz.underlying5 (by kernel_rfl) h
  have hm : len ≤ maxLen := by
    obtain ⟨fuel, hf⟩ := h
    rcases open_ints Tryz.underlying22 Tryz.underlying5 (by kernel_rfl) hf with ⟨hcs, _⟩ | ⟨x, l, c, zs, hcs, _, hl, hm, _⟩
    · simp [Value.cells] at hcs
      omega
    · simp [Value.cells] at hcs
      omega
  refine ⟨bs.map UInt8.ofNat, ?_, by rw [List.length_map]; omega, by rw [List.length_map]; exact h1⟩
  have e : Lib.byteCells (bs.map UInt8.ofNat) = bs.map bv := by
    unfold Lib.byteCells
    rw [List.map_map]
    apply List.map_congr_left
    intro z hz
    have := h3 z hz
    simp [bv]; omega
  rw [e]
  exact h2
end
/-- A world for the witness: the tables as their initialisers lay them, and Go's own table of first bytes. -/
noncomputable def laidWorldP (os : Os) : World :=
  { World.doorLaid Tryz.prog 400 os with heap := (World.doorLaid Tryz.prog 400 os).heap.modify 5 fun
      | .cells _ t frozen => .cells (Go.Pinned.utf8FirstZ.map (fun n : Nat => Value.int .u8 (n : Int))).toArray t frozen
      | o => o }
end Go.Proofs.YtkjnklagjhhhkaaGreatDoor
