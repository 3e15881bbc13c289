/-
  Ours: the tables of the commands and the plans that the rows list, as the walks ask them; an operation that came in, opened.
-/
import Derived.Test.YtkjnklagjhhhkaaGreatDoorWirRow
import Derived.Test.YtkjnklagjhhhkaaGreatDoorScCmd
import Derived.Test.YtkjnklagjhhhkaaGreatDoorTie
import Derived.Test.YtkjnklagjhhhkaaGreatDoorCards
import Derived.LaidMore
import Derived.Stop.LaidErr
import Derived.Lib.LaidTab
import Derived.ChangeArms
import Derived.Deep.DeepHandedRow
import Derived.MakeChecks
import Derived.LaidHandle
namespace Go.Proofs.YtkjnklagjhhhkaaGreatDoor
open Go.ChangeShapes Go.WideShapes Go.ChangeAt Go.RowKit ScF

def slD (l : List Nat) : DataW Unit := match l with
  | [] => .nil
  | x :: r => .slice (((x :: r).map Int.ofNat).map (fun n => .lit (.int .i64 n))) []
def cmdD (k : Nat) : DataW Unit := .agg [.lit (.string (wordN k)), slD (slotN k)]
theorem laid_cmds : (Rows.laid_arrears_script_commands : DataW Unit) = .agg ((List.range 22).map cmdD) := by kernel_rfl
theorem gCmd : Tryz.prog.globalNamed "arrears/script.commands" = some 0 := by kernel_rfl
theorem tyCmd : (Tryz.prog.globals[0]?).map (·.type) = some 54 := by kernel_rfl
theorem gPln : Tryz.prog.globalNamed "arrears/script.plans" = some 2 := by kernel_rfl
theorem tyPln : (Tryz.prog.globals[2]?).map (·.type) = some 117 := by kernel_rfl
section
variable {W : World} {enc : TypeId × Value → Unit} {p : Nat → Bool} {q : Bool}
theorem slots_of {fuel : Nat} {cs : List Value} {ps : List MemPlace} (l : List Nat) (h : DataW.trod enc Tryz.prog W 0 p q fuel 51 cs = some (slD l, ps)) :
    ∃ a c, cs = [.slice a l.length c] ∧ l.length ≤ c ∧ ∀ i, i < l.length → ∃ g o, a = some ⟨g, o, none⟩ ∧ g < W.heap.size ∧ W.cell? ⟨g, o + i, none⟩ = some (.int .i64 ((l.getD i 0 : Nat) : Int)) := by
  rcases open_ints Tryz.underlying51 Tryz.underlying55 (by kernel_rfl) h with ⟨rfl, hx⟩ | ⟨x, len, c, zs, rfl, _, hl, hm, hz, hx, hcell, hwz⟩
  · cases l with
    | nil => exact ⟨none, 0, rfl, Nat.le_refl _, fun i hi => by simp at hi⟩
    | cons x r => simp [slD] at hx
  · cases l with
    | nil => simp [slD] at hx
    | cons y r =>
      have hx1 := congrArg Prod.fst hx
      simp only [slD, DataW.slice.injEq] at hx1
      obtain ⟨h1, h2⟩ := hx1
      have e1 : zs.take len = (y :: r).map Int.ofNat := by
        have : lits (H := Unit) .i64 (zs.take len) = lits .i64 ((y :: r).map Int.ofNat) := h1.symm
        simp only [lits] at this
        have inj : ∀ a b : List Int, a.map (fun n => (DataW.lit (.int .i64 n) : DataW Unit)) = b.map (fun n => DataW.lit (.int .i64 n)) → a = b := by
          intro a
          induction a with
          | nil => intro b hb; cases b with
            | nil => rfl
            | cons _ _ => simp at hb
          | cons z a ih => intro b hb; cases b with
            | nil => simp at hb
            | cons z' b => simp at hb; rw [hb.1, ih b (by simpa using hb.2)]
        exact inj _ _ this
      have hzl : len ≤ zs.length := by rw [hz]; split <;> omega
      have hlen : (y :: r).length = len := by
        have := congrArg List.length e1
        rw [List.length_take, List.length_map] at this
        omega
      refine ⟨some x, c, by rw [hlen], by omega, fun i hi => ?_⟩
      have c0 := hcell i (by omega)
      obtain ⟨b, off, spot⟩ := x
      have hspot : spot = none := by
        have := World.cell?_spot (hcell 0 (by omega))
        simpa [Addr.add] using this
      subst hspot
      have hadd : (⟨b, off, none⟩ : Addr).add i = ⟨b, off + i, none⟩ := by unfold Addr.add; split <;> simp_all
      rw [hadd] at c0
      refine ⟨b, off, rfl, World.block_lt_of_cell? _ _ c0, ?_⟩
      rw [c0]
      have e2 : zs.getD i 0 = (((y :: r).getD i 0 : Nat) : Int) := by
        have h3 : (zs.take len)[i]? = ((y :: r).map Int.ofNat)[i]? := by rw [e1]
        rw [List.getElem?_take, if_pos (by omega), List.getElem?_map, List.getElem?_eq_getElem hi] at h3
        rw [List.getD_eq_getElem?_getD, h3, List.getD_eq_getElem?_getD, List.getElem?_eq_getElem hi]
        rfl
      rw [e2]
set_option maxRecDepth 100000 in
theorem cmd_cells {fuel : Nat} {cs : List Value} {ps : List MemPlace}
    (hd : DataW.trod enc Tryz.prog W 0 p q fuel 54 cs = some (Rows.laid_arrears_script_commands, ps)) : ∀ k, k < 22 → cs[k * 2]? = some (.string ⟨(wordN k).toArray⟩) ∧
      ∃ a c, cs[k * 2 + 1]? = some (.slice a (slotN k).length c) ∧ (slotN k).length ≤ c ∧ ∀ i, i < (slotN k).length → ∃ g o, a = some ⟨g, o, none⟩ ∧ g < W.heap.size ∧ W.cell? ⟨g, o + i, none⟩ = some (.int .i64 (((slotN k).getD i 0 : Nat) : Int)) := by
  obtain ⟨xs, m, rfl, hx, hl, hn, hf⟩ := DataW.trod_array Tryz.underlying54 hd
  have cR : Tryz.prog.cellsOf 53 = 2 := by kernel_rfl
  have cS : Tryz.prog.cellsOf 9 = 1 := by kernel_rfl
  have cL : Tryz.prog.cellsOf 51 = 1 := by kernel_rfl
  have cT : Tryz.prog.cellsOf 54 = 44 := by kernel_rfl
  rw [cT] at hl
  simp only [cR] at hf
  have hxs : xs.map (·.1) = (List.range 22).map cmdD := by
    have := congrArg Prod.fst hx
    rw [laid_cmds] at this
    injection this with this
    exact this.symm
  intro k hk
  have f0 := hf k hk
  rw [List.getElem?_eq_getElem (by omega)] at f0
  obtain ⟨y0, y1, n, e, _, t0, t1⟩ := trod_struct2 Tryz.underlying53 f0
  have h2 : (xs.map (·.1))[k]? = some (DataW.agg [y0.1, y1.1]) := by
    rw [List.getElem?_map, List.getElem?_eq_getElem (by omega), e]; rfl
  rw [hxs, List.getElem?_map, List.getElem?_range hk] at h2
  simp only [Option.map_some, Option.some.injEq, cmdD] at h2
  injection h2 with h2
  simp only [List.cons.injEq, and_true] at h2
  obtain ⟨w0, s1⟩ := h2
  simp only [cS, cL] at t0 t1
  have ek : ∀ j, j < 2 → ((cs.drop (k * 2)).take 2)[j]? = cs[k * 2 + j]? := fun j hj => by rw [List.getElem?_take, if_pos hj, List.getElem?_drop]
  obtain ⟨s, hc, hb, _⟩ := DataW.trod_string Tryz.underlying9 t0
  constructor
  · have h1 : cs[k * 2]? = some (.string s) := by
      have := congrArg (·[0]?) hc
      simp only [List.getElem?_take, List.getElem?_drop] at this
      simpa using this
    rw [h1]
    have h3 : y0.1 = DataW.lit (.string s.data.toList) := by rw [hb]
    rw [h3] at w0
    injection w0 with w0
    injection w0 with w0
    have : s = ⟨(wordN k).toArray⟩ := by
      cases s with
      | mk d => exact congrArg ByteArray.mk (by rw [w0])
    rw [this]
  · have ey : y1 = (slD (slotN k), y1.2) := by rw [s1]
    rw [ey] at t1
    obtain ⟨a, c, hcs, h4, h5⟩ := slots_of (slotN k) t1
    refine ⟨a, c, ?_, h4, h5⟩
    have := congrArg (·[0]?) hcs
    simp only [List.getElem?_take, List.getElem?_drop] at this
    simpa using this
set_option maxRecDepth 100000 in
theorem pln_cells {fuel : Nat} {cs : List Value} {ps : List MemPlace}
    (hd : DataW.trod enc Tryz.prog W 0 p q fuel 117 cs = some (Rows.laid_arrears_script_plans, ps)) : ∀ n, n < 3 → cs[n]? = some (.string ⟨(planN n).toArray⟩) := by
  obtain ⟨xs, m, rfl, hx, hl, hn, hf⟩ := DataW.trod_array Tryz.underlying117 hd
  have cR : Tryz.prog.cellsOf 9 = 1 := by kernel_rfl
  simp only [cR, Nat.mul_one] at hf
  have hxs : xs.map (·.1) = (List.range 3).map (fun n => DataW.lit (.string (planN n))) := by
    have := congrArg Prod.fst hx
    have e : (Rows.laid_arrears_script_plans : DataW Unit) = DataW.agg ((List.range 3).map (fun n => DataW.lit (.string (planN n)))) := by kernel_rfl
    rw [e] at this
    injection this with this
    exact this.symm
  intro n hn6
  have f0 := hf n hn6
  rw [List.getElem?_eq_getElem (by omega)] at f0
  obtain ⟨s, hc, hb, _⟩ := DataW.trod_string Tryz.underlying9 f0
  have h1 : cs[n]? = some (.string s) := by
    have := congrArg (·[0]?) hc
    simpa using this
  have h2 : (xs.map (·.1))[n]? = some (DataW.lit (.string s.data.toList)) := by
    rw [List.getElem?_map, List.getElem?_eq_getElem (by omega), hb]; rfl
  rw [hxs, List.getElem?_map, List.getElem?_range hn6] at h2
  simp only [Option.map_some, Option.some.injEq] at h2
  injection h2 with h2
  injection h2 with h2
  rw [h1]
  have : s = ⟨(planN n).toArray⟩ := by
    cases s with
    | mk d => exact congrArg ByteArray.mk (by rw [h2])
  rw [this]
end
set_option maxRecDepth 100000 in
theorem cmd_met {W : World} {r : List (String × DataW Unit)} (h : laidMet Tryz.prog (("arrears/script.commands", Rows.laid_arrears_script_commands) :: r) W) : CmdW W := by
  obtain ⟨ps, ⟨g', t', cs, fuel, p, q, hg', ht', hvar, hd, _, _⟩, _⟩ := h
  obtain rfl := Option.some.inj (gCmd.symm.trans hg')
  obtain rfl := Option.some.inj (tyCmd.symm.trans ht')
  have key := cmd_cells hd
  refine ⟨fun k hk => ?_, fun k hk => ?_⟩
  · rw [World.var?_cell gCmd hvar (k * 2)]
    simpa using (key k hk).1
  · obtain ⟨a, c, h1, h2, h3⟩ := (key k hk).2
    refine ⟨a, c, ?_, h2, h3⟩
    rw [World.var?_cell gCmd hvar (k * 2 + 1)]
    simpa using h1
set_option maxRecDepth 100000 in
theorem pln_met {W : World} {r : List (String × DataW Unit)} (h : laidMet Tryz.prog (("arrears/script.plans", Rows.laid_arrears_script_plans) :: r) W) : PlnW W := by
  obtain ⟨ps, ⟨g', t', cs, fuel, p, q, hg', ht', hvar, hd, _, _⟩, _⟩ := h
  obtain rfl := Option.some.inj (gPln.symm.trans hg')
  obtain rfl := Option.some.inj (tyPln.symm.trans ht')
  have key := pln_cells hd
  intro n hn
  rw [World.var?_cell gPln hvar n]
  simpa using key n hn
/-- A world for the witness: the tables as their initialisers lay them. -/
noncomputable def laidWorld (os : Os) : World := World.doorLaid Tryz.prog 400 os
section
variable {H : Type} {enc : TypeId × Value → H} {W : World}
set_option maxRecDepth 100000 in
theorem op_open {base : Nat} {v : Value} {d : DataW H} {ps : List MemPlace} (hval : Value.okWide Tryz.prog W .any base 24 v)
    (hd : DataW.Trod enc Tryz.prog W 0 (fun _ => true) true 24 v d ps) : ∃ o : Cm, v = opV o ∧ o.Ok ∧ o.text.length ≤ maxLen := by
  obtain ⟨cs, rfl, hs⟩ := okWide_struct Tryz.underlying24 hval
  obtain ⟨fuel, hf⟩ := hd
  obtain ⟨ys, kk, hkk, hdx, hlen, hyl, hfl⟩ := DataW.trod_struct Tryz.underlying24 hf
  have cI : Tryz.prog.cellsOf 3 = 1 := by kernel_rfl
  have cL : Tryz.prog.cellsOf 2 = 1 := by kernel_rfl
  have cS : Tryz.prog.cellsOf 9 = 1 := by kernel_rfl
  have cT : Tryz.prog.cellsOf 24 = 7 := by kernel_rfl
  rw [cT] at hs
  obtain ⟨l⟩ := cs
  simp at hs
  simp only [Value.cells] at hfl
  match ys, hyl, l, hs with
  | [y0, y1, y2, y3, y4, y5, y6], _, [v0, v1, v2, v3, v4, v5, v6], _ =>
    have t0 := hfl 0 _ rfl
    have t1 := hfl 1 _ rfl
    have t2 := hfl 2 _ rfl
    have t3 := hfl 3 _ rfl
    have t4 := hfl 4 _ rfl
    have t5 := hfl 5 _ rfl
    have t6 := hfl 6 _ rfl
    simp [cI, cL, cS] at t0 t1 t2 t3 t4 t5 t6
    obtain ⟨n0, e0, _, f0⟩ := DataW.trod_int Tryz.underlying3 t0
    obtain ⟨n1, e1, _, f1⟩ := DataW.trod_int Tryz.underlying3 t1
    obtain ⟨n2, e2, _, f2⟩ := DataW.trod_int Tryz.underlying2 t2
    obtain ⟨n3, e3, _, f3⟩ := DataW.trod_int Tryz.underlying2 t3
    obtain ⟨n4, e4, _, f4⟩ := DataW.trod_int Tryz.underlying3 t4
    obtain ⟨n5, e5, _, f5⟩ := DataW.trod_int Tryz.underlying3 t5
    obtain ⟨s6, e6, _, f6⟩ := DataW.trod_string Tryz.underlying9 t6
    simp at e0 e1 e2 e3 e4 e5 e6
    subst e0 e1 e2 e3 e4 e5 e6
    refine ⟨⟨n0, n1, n2, n3, n4, n5, s6.data.toList⟩, ?_, ⟨bounds f0, bounds f1, bounds f2, bounds f3, bounds f4, bounds f5⟩, ?_⟩
    · show Value.agg #[_, _, _, _, _, _, Value.string s6] = _
      rfl
    · show s6.data.toList.length ≤ _
      rw [Array.length_toList]
      exact f6
end
end Go.Proofs.YtkjnklagjhhhkaaGreatDoor
