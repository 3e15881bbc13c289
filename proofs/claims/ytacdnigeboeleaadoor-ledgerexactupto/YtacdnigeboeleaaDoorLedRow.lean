/-
  Ours: the table of the sides that a row lists, as the walks ask it.
-/
import Derived.Test.YtacdnigeboeleaaDoorWirRow
import Derived.Test.YtacdnigeboeleaaDoorLedBal
import Derived.Test.YtacdnigeboeleaaDoorTie
import Derived.Test.YtacdnigeboeleaaDoorCards
import Derived.Lib.LaidTab
import Derived.ChangeArms
import Derived.Deep.DeepHandedRow
import Derived.MakeChecks
import Derived.LaidHandle
namespace Go.Proofs.YtacdnigeboeleaaDoor
open Go.ChangeShapes Go.WideShapes Go.ChangeAt Go.RowKit LedM

theorem gD : Tryd.prog.globalNamed "arrears/ledger.debits" = some 0 := by kernel_rfl
theorem tyD : (Tryd.prog.globals[0]?).map (·.type) = some 73 := by kernel_rfl
abbrev lstD : List (String × DataW Unit) := [("arrears/ledger.debits", Rows.laid_arrears_ledger_debits)]
theorem tabD_met {W : World} (h : laidMet Tryd.prog lstD W) : TabD W := by
  obtain ⟨ps, ⟨g', t', cs, fuel, p, q, hg', ht', hvar, hd, _, _⟩, _⟩ := h
  obtain rfl := Option.some.inj (gD.symm.trans hg')
  obtain rfl := Option.some.inj (tyD.symm.trans ht')
  obtain ⟨xs, m, rfl, hx, hl, hn, hf⟩ := DataW.trod_array Tryd.underlying73 hd
  have cB : Tryd.prog.cellsOf 4 = 1 := by kernel_rfl
  have cT : Tryd.prog.cellsOf 73 = 12 := by kernel_rfl
  rw [cT] at hl
  simp only [cB, Nat.mul_one] at hf
  have hxs : xs.map (·.1) = [.lit (.bool true), .lit (.bool true), .lit (.bool true), .lit (.bool true), .lit (.bool false), .lit (.bool false), .lit (.bool false), .lit (.bool false), .lit (.bool false), .lit (.bool true), .lit (.bool false), .lit (.bool true)] := by
    have := congrArg Prod.fst hx
    simpa [Rows.laid_arrears_ledger_debits] using this.symm
  intro k hk
  have c0 := World.var?_cell gD hvar k
  have f0 := hf k hk
  rw [List.getElem?_eq_getElem (by omega)] at f0
  obtain ⟨b, hc, hb⟩ := DataW.trod_bool Tryd.underlying4 f0
  have h1 : cs[k]? = some (.bool b) := by
    have := congrArg (·[0]?) hc
    simpa [List.getElem?_take, List.getElem?_drop] using this
  have h2 : (xs.map (·.1))[k]? = some (DataW.lit (.bool b)) := by
    rw [List.getElem?_map, List.getElem?_eq_getElem (by omega), hb]; rfl
  rw [hxs] at h2
  have h3 : W.cell? ⟨0, k, none⟩ = some (.bool b) := by rw [c0]; simpa using h1
  rw [h3]
  have : k = 0 ∨ k = 1 ∨ k = 2 ∨ k = 3 ∨ k = 4 ∨ k = 5 ∨ k = 6 ∨ k = 7 ∨ k = 8 ∨ k = 9 ∨ k = 10 ∨ k = 11 := by omega
  rcases this with e | e | e | e | e | e | e | e | e | e | e | e <;> subst e <;> (simp at h2; subst h2; rfl)
theorem tabD_of {W : World} (h : laidMetH Tryd.prog lstD W) : TabD W := tabD_met h

/-- A world for the witness: the table as its initialiser lays it. -/
noncomputable def laidWorld (os : Os) : World :=
  { World.holding Tryd.prog os ⟨#[], #[], []⟩ with heap := (World.holding Tryd.prog os ⟨#[], #[], []⟩).heap.modify 0 fun
      | .cells _ t frozen => .cells #[.bool true, .bool true, .bool true, .bool true, .bool false, .bool false, .bool false, .bool false, .bool false, .bool true, .bool false, .bool true] t frozen
      | o => o }
end Go.Proofs.YtacdnigeboeleaaDoor
