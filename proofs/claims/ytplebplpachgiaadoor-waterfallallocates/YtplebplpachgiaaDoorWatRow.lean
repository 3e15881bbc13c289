/-
  Ours: the table of the orders that a row lists, as the walks ask it.
-/
import Derived.Test.YtplebplpachgiaaDoorWirRow
import Derived.Test.YtplebplpachgiaaDoorWatOrd
import Derived.Test.YtplebplpachgiaaDoorTie
import Derived.Test.YtplebplpachgiaaDoorCards
import Derived.Lib.LaidTab
import Derived.ChangeArms
import Derived.Deep.DeepHandedRow
import Derived.MakeChecks
import Derived.LaidHandle
namespace Go.Proofs.YtplebplpachgiaaDoor
open Go.ChangeShapes Go.WideShapes Go.ChangeAt Go.RowKit LedM WatM

theorem gO : Tryd.prog.globalNamed "arrears/waterfall.orders" = some 0 := by kernel_rfl
theorem tyO : (Tryd.prog.globals[0]?).map (·.type) = some 39 := by kernel_rfl
theorem tabO_cells {W : World} {cs : List Value} {fuel : Nat} {ps : List MemPlace} {enc : TypeId × Value → Unit} {p : Nat → Bool} {q : Bool}
    (hd : DataW.trod enc Tryd.prog W 0 p q fuel 39 cs = some (Rows.laid_arrears_waterfall_orders, ps)) : ∀ n j, n < 6 → j < 3 → cs[n * 3 + j]? = some (.int .i64 (kd n j : Int)) := by
  obtain ⟨xs, m, rfl, hx, hl, hn, hf⟩ := DataW.trod_array Tryd.underlying39 hd
  have cT : Tryd.prog.cellsOf 39 = 18 := by kernel_rfl
  have cR : Tryd.prog.cellsOf 25 = 3 := by kernel_rfl
  have cI : Tryd.prog.cellsOf 3 = 1 := by kernel_rfl
  rw [cT] at hl
  simp only [cR] at hf
  have hxs : xs.map (·.1) = [.agg [.lit (.int .i64 3), .lit (.int .i64 2), .lit (.int .i64 1)], .agg [.lit (.int .i64 3), .lit (.int .i64 1), .lit (.int .i64 2)], .agg [.lit (.int .i64 2), .lit (.int .i64 3), .lit (.int .i64 1)], .agg [.lit (.int .i64 2), .lit (.int .i64 1), .lit (.int .i64 3)], .agg [.lit (.int .i64 1), .lit (.int .i64 3), .lit (.int .i64 2)], .agg [.lit (.int .i64 1), .lit (.int .i64 2), .lit (.int .i64 3)]] := by
    have := congrArg Prod.fst hx
    simpa [Rows.laid_arrears_waterfall_orders] using this.symm
  intro n j hn6 hj
  have f0 := hf n hn6
  rw [List.getElem?_eq_getElem (by omega)] at f0
  obtain ⟨ys, m', e', hy, hl', hn', hf'⟩ := DataW.trod_array Tryd.underlying25 f0
  simp only [cI, Nat.mul_one] at hf'
  have f1 := hf' j hj
  rw [List.getElem?_eq_getElem (by omega)] at f1
  obtain ⟨v, hc, hb, _⟩ := DataW.trod_int Tryd.underlying3 f1
  have h1 : cs[n * 3 + j]? = some (.int .i64 v) := by
    have := congrArg (·[0]?) hc
    simp only [List.getElem?_take, List.getElem?_drop, Nat.add_zero] at this
    simpa [hj] using this
  have h2 : (xs.map (·.1))[n]? = some (DataW.agg (ys.map (·.1))) := by
    rw [List.getElem?_map, List.getElem?_eq_getElem (by omega), hy]; rfl
  have h3 : (ys.map (·.1))[j]? = some (DataW.lit (.int .i64 v)) := by
    rw [List.getElem?_map, List.getElem?_eq_getElem (by omega), hb]; rfl
  rw [hxs] at h2
  rw [h1]
  have a : n = 0 ∨ n = 1 ∨ n = 2 ∨ n = 3 ∨ n = 4 ∨ n = 5 := by omega
  have b : j = 0 ∨ j = 1 ∨ j = 2 := by omega
  rcases a with e | e | e | e | e | e <;> subst e <;> (simp at h2; rw [← h2] at h3) <;> rcases b with e | e | e <;> subst e <;> (simp at h3; subst h3; rfl)
abbrev lstO : List (String × DataW Unit) := [("arrears/waterfall.orders", Rows.laid_arrears_waterfall_orders)]
theorem tabO_met {W : World} (h : laidMet Tryd.prog lstO W) : TabO W := by
  obtain ⟨ps, ⟨g', t', cs, fuel, p, q, hg', ht', hvar, hd, _, _⟩, _⟩ := h
  obtain rfl := Option.some.inj (gO.symm.trans hg')
  obtain rfl := Option.some.inj (tyO.symm.trans ht')
  have key := tabO_cells hd
  intro n j hn hj
  rw [World.var?_cell gO hvar (n * 3 + j)]
  simpa using key n j hn hj
theorem tabO_of {W : World} (h : laidMetH Tryd.prog lstO W) : TabO W := tabO_met h

/-- A world for the witness: the table as its initialiser lays it. -/
noncomputable def laidWorld (os : Os) : World :=
  { World.holding Tryd.prog os ⟨#[], #[], []⟩ with heap := (World.holding Tryd.prog os ⟨#[], #[], []⟩).heap.modify 0 fun
      | .cells _ t frozen => .cells #[.int .i64 3, .int .i64 2, .int .i64 1, .int .i64 3, .int .i64 1, .int .i64 2, .int .i64 2, .int .i64 3, .int .i64 1, .int .i64 2, .int .i64 1, .int .i64 3, .int .i64 1, .int .i64 3, .int .i64 2, .int .i64 1, .int .i64 2, .int .i64 3] t frozen
      | o => o }
end Go.Proofs.YtplebplpachgiaaDoor
