/-
  Ours: the two tables that a row lists, as the walks ask them.
-/
import Derived.Test.YtplebplpachgiabDoorWatRow
import Derived.Test.YtplebplpachgiabDoorLedBal
namespace Go.Proofs.YtplebplpachgiabDoor
open Go.ChangeShapes Go.WideShapes Go.ChangeAt Go.RowKit LedM WatM

theorem gD : Tryd.prog.globalNamed "arrears/ledger.debits" = some 1 := by kernel_rfl
theorem tyD : (Tryd.prog.globals[1]?).map (·.type) = some 69 := by kernel_rfl
abbrev lstB : List (String × DataW Unit) := [("arrears/waterfall.orders", Rows.laid_arrears_waterfall_orders), ("arrears/ledger.debits", Rows.laid_arrears_ledger_debits)]
theorem tabs_met {W : World} (h : laidMet Tryd.prog lstB W) : TabO W ∧ TabD W := by
  obtain ⟨ps, ⟨g', t', cs, fuel, p, q, hg', ht', hvar, hd, hrest, _⟩, _⟩ := h
  obtain rfl := Option.some.inj (gO.symm.trans hg')
  obtain rfl := Option.some.inj (tyO.symm.trans ht')
  have key := tabO_cells hd
  refine ⟨fun n j hn hj => ?_, ?_⟩
  · rw [World.var?_cell gO hvar (n * 3 + j)]
    simpa using key n j hn hj
  · obtain ⟨g', t', cs, fuel, p, q, hg', ht', hvar, hd, _, _⟩ := hrest
    obtain rfl := Option.some.inj (gD.symm.trans hg')
    obtain rfl := Option.some.inj (tyD.symm.trans ht')
    obtain ⟨xs, m, rfl, hx, hl, hn, hf⟩ := DataW.trod_array Tryd.underlying69 hd
    have cB : Tryd.prog.cellsOf 4 = 1 := by kernel_rfl
    have cT : Tryd.prog.cellsOf 69 = 12 := by kernel_rfl
    rw [cT] at hl
    simp only [cB, Nat.mul_one] at hf
    have hxs : xs.map (·.1) = [.lit (.bool true), .lit (.bool true), .lit (.bool true), .lit (.bool true), .lit (.bool false), .lit (.bool false), .lit (.bool false), .lit (.bool false), .lit (.bool false), .lit (.bool true), .lit (.bool false), .lit (.bool true)] := by
      have := congrArg Prod.fst hx
      simpa [Rows.laid_arrears_ledger_debits] using this.symm
    intro k hk
    have c0 := World.var?_cell gD hvar k
    have f0 := hf k hk
    rw [List.getElem?_eq_getElem (by omega)] at f0
    obtain ⟨b, hc, hb⟩ := DataW.trod_bool Tryd.underlying4 f0
    have h1 : cs[k]? = some (.bool b) := by
      have := congrArg (·[0]?) hc
      simpa [List.getElem?_take, List.getElem?_drop] using this
    have h2 : (xs.map (·.1))[k]? = some (DataW.lit (.bool b)) := by
      rw [List.getElem?_map, List.getElem?_eq_getElem (by omega), hb]; rfl
    rw [hxs] at h2
    have h3 : W.cell? ⟨1, k, none⟩ = some (.bool b) := by rw [c0]; simpa using h1
    rw [h3]
    have : k = 0 ∨ k = 1 ∨ k = 2 ∨ k = 3 ∨ k = 4 ∨ k = 5 ∨ k = 6 ∨ k = 7 ∨ k = 8 ∨ k = 9 ∨ k = 10 ∨ k = 11 := by omega
    rcases this with e | e | e | e | e | e | e | e | e | e | e | e <;> subst e <;> (simp at h2; subst h2; rfl)
theorem tabs_of {W : World} (h : laidMetH Tryd.prog lstB W) : TabO W ∧ TabD W := tabs_met h

/-- A world for the witness: both tables as their initialisers lay them. -/
noncomputable def laidWorldB (os : Os) : World :=
  { laidWorld os with heap := (laidWorld os).heap.modify 1 fun
      | .cells _ t frozen => .cells #[.bool true, .bool true, .bool true, .bool true, .bool false, .bool false, .bool false, .bool false, .bool false, .bool true, .bool false, .bool true] t frozen
      | o => o }
end Go.Proofs.YtplebplpachgiabDoor
