/-
  Ours: the tables that a statement of accounts lists, as the walks ask them.
-/
import Derived.Test.YtmennknknecgjaaDoorLbRow
import Derived.Test.YtmennknknecgjaaDoorStRLns
import Derived.Test.YtmennknknecgjaaDoorTie
import Derived.Test.YtmennknknecgjaaDoorCards
import Derived.LaidMore
import Derived.Lib.LaidTab
import Derived.ChangeArms
import Derived.Deep.DeepHandedRow
import Derived.MakeChecks
import Derived.LaidHandle
namespace Go.Proofs.YtmennknknecgjaaDoor
open Go.ChangeShapes Go.WideShapes Go.ChangeAt Go.RowKit CalM LedM StM

theorem gDeb : Tryd.prog.globalNamed "arrears/ledger.debits" = some 3 := by kernel_rfl
theorem tyDeb : (Tryd.prog.globals[3]?).map (·.type) = some 78 := by kernel_rfl
theorem deb_met {W : World} {r : List (String × DataW Unit)} (h : laidMet Tryd.prog (("arrears/ledger.debits", Rows.laid_arrears_ledger_debits) :: r) W) : TabD W := by
  obtain ⟨ps, ⟨g', t', cs, fuel, p, q, hg', ht', hvar, hd, _, _⟩, _⟩ := h
  obtain rfl := Option.some.inj (gDeb.symm.trans hg')
  obtain rfl := Option.some.inj (tyDeb.symm.trans ht')
  obtain ⟨xs, m, rfl, hx, hl, hn, hf⟩ := DataW.trod_array Tryd.underlying78 hd
  have cB : Tryd.prog.cellsOf 4 = 1 := by kernel_rfl
  have cT : Tryd.prog.cellsOf 78 = 12 := by kernel_rfl
  rw [cT] at hl
  simp only [cB, Nat.mul_one] at hf
  have hxs : xs.map (·.1) = [.lit (.bool true), .lit (.bool true), .lit (.bool true), .lit (.bool true), .lit (.bool false), .lit (.bool false), .lit (.bool false), .lit (.bool false), .lit (.bool false), .lit (.bool true), .lit (.bool false), .lit (.bool true)] := by
    have := congrArg Prod.fst hx
    simpa [Rows.laid_arrears_ledger_debits] using this.symm
  intro k hk
  have c0 := World.var?_cell gDeb hvar k
  have f0 := hf k hk
  rw [List.getElem?_eq_getElem (by omega)] at f0
  obtain ⟨b, hc, hb⟩ := DataW.trod_bool Tryd.underlying4 f0
  have h1 : cs[k]? = some (.bool b) := by
    have := congrArg (·[0]?) hc
    simpa [List.getElem?_take, List.getElem?_drop] using this
  have h2 : (xs.map (·.1))[k]? = some (DataW.lit (.bool b)) := by
    rw [List.getElem?_map, List.getElem?_eq_getElem (by omega), hb]; rfl
  rw [hxs] at h2
  have h3 : W.cell? ⟨3, k, none⟩ = some (.bool b) := by rw [c0]; simpa using h1
  rw [h3]
  have : k = 0 ∨ k = 1 ∨ k = 2 ∨ k = 3 ∨ k = 4 ∨ k = 5 ∨ k = 6 ∨ k = 7 ∨ k = 8 ∨ k = 9 ∨ k = 10 ∨ k = 11 := by omega
  rcases this with e | e | e | e | e | e | e | e | e | e | e | e <;> subst e <;> (simp at h2; subst h2; rfl)
theorem laid_wds : (Rows.laid_arrears_statement_words : DataW Unit) = .agg ((List.range 9).map fun k : Nat => .lit (.string (wordL (k : Int)))) := by kernel_rfl
theorem gWds : Tryd.prog.globalNamed "arrears/statement.words" = some 0 := by kernel_rfl
theorem tyWds : (Tryd.prog.globals[0]?).map (·.type) = some 50 := by kernel_rfl
theorem wds_met {W : World} {r : List (String × DataW Unit)} (h : laidMet Tryd.prog (("arrears/statement.words", Rows.laid_arrears_statement_words) :: r) W) : TabQ W := by
  obtain ⟨ps, ⟨g', t', cs, fuel, p, q, hg', ht', hvar, hd, _, _⟩, _⟩ := h
  obtain rfl := Option.some.inj (gWds.symm.trans hg')
  obtain rfl := Option.some.inj (tyWds.symm.trans ht')
  obtain ⟨xs, m, rfl, hx, hl, hn, hf⟩ := DataW.trod_array Tryd.underlying50 hd
  have cB : Tryd.prog.cellsOf 9 = 1 := by kernel_rfl
  have cT : Tryd.prog.cellsOf 50 = 9 := by kernel_rfl
  rw [cT] at hl
  simp only [cB, Nat.mul_one] at hf
  have hxs : xs.map (·.1) = (List.range 9).map fun k : Nat => .lit (.string (wordL (k : Int))) := by
    have := congrArg Prod.fst hx
    rw [laid_wds] at this
    injection this with this
    exact this.symm
  intro k hk
  have c0 := World.var?_cell gWds hvar k
  have f0 := hf k hk
  rw [List.getElem?_eq_getElem (by omega)] at f0
  obtain ⟨s, hc, hb, _⟩ := DataW.trod_string Tryd.underlying9 f0
  have h1 : cs[k]? = some (.string s) := by
    have := congrArg (·[0]?) hc
    simpa [List.getElem?_take, List.getElem?_drop] using this
  have h2 : (xs.map (·.1))[k]? = some (DataW.lit (.string s.data.toList)) := by
    rw [List.getElem?_map, List.getElem?_eq_getElem (by omega), hb]; rfl
  rw [hxs, List.getElem?_map, List.getElem?_range hk] at h2
  simp only [Option.map_some, Option.some.injEq] at h2
  injection h2 with h2
  injection h2 with h2
  have e : s = ⟨(wordL (k : Int)).toArray⟩ := by
    cases s with
    | mk d => exact congrArg ByteArray.mk (by rw [h2])
  rw [c0, ← e]
  simpa using h1
theorem gCol : Tryd.prog.globalNamed "arrears/statement.columns" = some 1 := by kernel_rfl
theorem tyCol : (Tryd.prog.globals[1]?).map (·.type) = some 60 := by kernel_rfl
theorem cols_met {W : World} {r : List (String × DataW Unit)} (h : laidMet Tryd.prog (("arrears/statement.columns", Rows.laid_arrears_statement_columns) :: r) W) : TabC W := by
  have t := Lib.tabIs_of_head (zs := [1, 2, 3, 4]) gCol tyCol Tryd.underlying60 Tryd.underlying3 (by kernel_rfl) (by kernel_rfl) h
  intro k hk
  have := t.cell gCol k (by simpa using hk)
  rw [this]
  have : k = 0 ∨ k = 1 ∨ k = 2 ∨ k = 3 := by omega
  rcases this with e | e | e | e <;> subst e <;> rfl
abbrev lstD : List (String × DataW Unit) := [("math/bits.deBruijn32tab", Rows.laid_math_bits_deBruijn32tab), ("math/bits.deBruijn64tab", Rows.laid_math_bits_deBruijn64tab), ("internal/strconv.uint64pow10", Rows.laid_internal_strconv_uint64pow10), ("arrears/ledger.debits", Rows.laid_arrears_ledger_debits), ("arrears/calendar.ahead", Rows.laid_arrears_calendar_ahead), ("arrears/statement.words", Rows.laid_arrears_statement_words), ("arrears/statement.columns", Rows.laid_arrears_statement_columns)]
theorem tabD_of {W : World} (h : laidMetH Tryd.prog lstD W) : TabS W := by
  unfold lstD at h
  rw [Go.MakeChecks.laidMetH_plain _ _ _ (by kernel_rfl)] at h
  have e3 := h.tail.tail
  have e4 := h.tail.tail.tail
  have e5 := h.tail.tail.tail.tail
  have e6 := h.tail.tail.tail.tail.tail
  have e7 := h.tail.tail.tail.tail.tail.tail
  exact ⟨tabA_is (Lib.tabIs_of_head (zs := aheadT) gA tyA Tryd.underlying70 Tryd.underlying3 cellsI cellsT e5), Lib.tabIs_of_head (zs := Lib.pow10Tab) gP (by kernel_rfl) Tryd.underlying89 Tryd.underlying64 (by kernel_rfl) (by kernel_rfl) e3, deb_met e4, wds_met e6, cols_met e7⟩
/-- A world for the witness: the tables as their initialisers lay them. -/
noncomputable def laidWorld (os : Os) : World := World.doorLaid Tryd.prog 400 os
end Go.Proofs.YtmennknknecgjaaDoor
