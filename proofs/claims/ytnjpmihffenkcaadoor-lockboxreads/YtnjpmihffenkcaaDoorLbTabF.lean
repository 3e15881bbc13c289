/-
  Ours: the table of the forms as a row lists it; an argument that is a batch, opened.
-/
import Derived.Test.YtnjpmihffenkcaaDoorLbRow
import Derived.Test.YtnjpmihffenkcaaDoorLbTll
import Derived.Test.YtnjpmihffenkcaaDoorTie
import Derived.Test.YtnjpmihffenkcaaDoorCards
import Derived.LaidMore
import Derived.Stop.LaidErr
import Derived.Lib.LaidTab
import Derived.ChangeArms
import Derived.Deep.DeepHandedRow
import Derived.MakeChecks
import Derived.LaidHandle
import Derived.Deep.Slices
namespace Go.Proofs.YtnjpmihffenkcaaDoor
open Go.ChangeShapes Go.WideShapes Go.ChangeAt Go.RowKit LbM LbF CalM

def slD (l : List Nat) : DataW Unit := match l with
  | [] => .nil
  | x :: r => .slice (((x :: r).map Int.ofNat).map (fun n => .lit (.int .i64 n))) []
def frmD (k : Nat) : DataW Unit := .agg [.lit (.string [UInt8.ofNat (ltr k)]), slD (wid k)]
theorem laid_frms : (Rows.laid_arrears_lockbox_forms : DataW Unit) = .agg ((List.range 3).map frmD) := by kernel_rfl
theorem gFrm : Tryd.prog.globalNamed "arrears/lockbox.forms" = some 1 := by kernel_rfl
theorem tyFrm : (Tryd.prog.globals[1]?).map (·.type) = some 112 := by kernel_rfl
section
variable {W : World} {enc : TypeId × Value → Unit} {p : Nat → Bool} {q : Bool}
theorem slots_of {fuel : Nat} {cs : List Value} {ps : List MemPlace} (l : List Nat) (h : DataW.trod enc Tryd.prog W 0 p q fuel 109 cs = some (slD l, ps)) :
    ∃ a c, cs = [.slice a l.length c] ∧ l.length ≤ c ∧ ∀ i, i < l.length → ∃ g o, a = some ⟨g, o, none⟩ ∧ g < W.heap.size ∧ W.cell? ⟨g, o + i, none⟩ = some (.int .i64 ((l.getD i 0 : Nat) : Int)) := by
  rcases open_ints Tryd.underlying109 Tryd.underlying3 (by kernel_rfl) h with ⟨rfl, hx⟩ | ⟨x, len, c, zs, rfl, _, hl, hm, hz, hx, hcell, hwz⟩
  · cases l with
    | nil => exact ⟨none, 0, rfl, Nat.le_refl _, fun i hi => by simp at hi⟩
    | cons x r => simp [slD] at hx
  · cases l with
    | nil => simp [slD] at hx
    | cons y r =>
      have hx1 := congrArg Prod.fst hx
      simp only [slD, DataW.slice.injEq] at hx1
      obtain ⟨h1, h2⟩ := hx1
      have e1 : zs.take len = (y :: r).map Int.ofNat := by
        have : lits (H := Unit) .i64 (zs.take len) = lits .i64 ((y :: r).map Int.ofNat) := h1.symm
        simp only [lits] at this
        have inj : ∀ a b : List Int, a.map (fun n => (DataW.lit (.int .i64 n) : DataW Unit)) = b.map (fun n => DataW.lit (.int .i64 n)) → a = b := by
          intro a
          induction a with
          | nil => intro b hb; cases b with
            | nil => rfl
            | cons _ _ => simp at hb
          | cons z a ih => intro b hb; cases b with
            | nil => simp at hb
            | cons z' b => simp at hb; rw [hb.1, ih b (by simpa using hb.2)]
        exact inj _ _ this
      have hzl : len ≤ zs.length := by rw [hz]; split <;> omega
      have hlen : (y :: r).length = len := by
        have := congrArg List.length e1
        rw [List.length_take, List.length_map] at this
        omega
      refine ⟨some x, c, by rw [hlen], by omega, fun i hi => ?_⟩
      have c0 := hcell i (by omega)
      obtain ⟨b, off, spot⟩ := x
      have hspot : spot = none := by
        have := World.cell?_spot (hcell 0 (by omega))
        simpa [Addr.add] using this
      subst hspot
      have hadd : (⟨b, off, none⟩ : Addr).add i = ⟨b, off + i, none⟩ := by unfold Addr.add; split <;> simp_all
      rw [hadd] at c0
      refine ⟨b, off, rfl, World.block_lt_of_cell? _ _ c0, ?_⟩
      rw [c0]
      have e2 : zs.getD i 0 = (((y :: r).getD i 0 : Nat) : Int) := by
        have h3 : (zs.take len)[i]? = ((y :: r).map Int.ofNat)[i]? := by rw [e1]
        rw [List.getElem?_take, if_pos (by omega), List.getElem?_map, List.getElem?_eq_getElem hi] at h3
        rw [List.getD_eq_getElem?_getD, h3, List.getD_eq_getElem?_getD, List.getElem?_eq_getElem hi]
        rfl
      rw [e2]
set_option maxRecDepth 100000 in
theorem frm_cells {fuel : Nat} {cs : List Value} {ps : List MemPlace}
    (hd : DataW.trod enc Tryd.prog W 0 p q fuel 112 cs = some (Rows.laid_arrears_lockbox_forms, ps)) : ∀ k, k < 3 → cs[k * 2]? = some (.string ⟨[UInt8.ofNat (ltr k)].toArray⟩) ∧
      ∃ a c, cs[k * 2 + 1]? = some (.slice a (wid k).length c) ∧ (wid k).length ≤ c ∧ ∀ i, i < (wid k).length → ∃ g o, a = some ⟨g, o, none⟩ ∧ g < W.heap.size ∧ W.cell? ⟨g, o + i, none⟩ = some (.int .i64 (((wid k).getD i 0 : Nat) : Int)) := by
  obtain ⟨xs, m, rfl, hx, hl, hn, hf⟩ := DataW.trod_array Tryd.underlying112 hd
  have cR : Tryd.prog.cellsOf 111 = 2 := by kernel_rfl
  have cS : Tryd.prog.cellsOf 9 = 1 := by kernel_rfl
  have cL : Tryd.prog.cellsOf 109 = 1 := by kernel_rfl
  have cT : Tryd.prog.cellsOf 112 = 6 := by kernel_rfl
  rw [cT] at hl
  simp only [cR] at hf
  have hxs : xs.map (·.1) = (List.range 3).map frmD := by
    have := congrArg Prod.fst hx
    rw [laid_frms] at this
    injection this with this
    exact this.symm
  intro k hk
  have f0 := hf k hk
  rw [List.getElem?_eq_getElem (by omega)] at f0
  obtain ⟨y0, y1, n, e, _, t0, t1⟩ := trod_struct2 Tryd.underlying111 f0
  have h2 : (xs.map (·.1))[k]? = some (DataW.agg [y0.1, y1.1]) := by
    rw [List.getElem?_map, List.getElem?_eq_getElem (by omega), e]; rfl
  rw [hxs, List.getElem?_map, List.getElem?_range hk] at h2
  simp only [Option.map_some, Option.some.injEq, frmD] at h2
  injection h2 with h2
  simp only [List.cons.injEq, and_true] at h2
  obtain ⟨w0, s1⟩ := h2
  simp only [cS, cL] at t0 t1
  obtain ⟨s, hc, hb, _⟩ := DataW.trod_string Tryd.underlying9 t0
  constructor
  · have h1 : cs[k * 2]? = some (.string s) := by
      have := congrArg (·[0]?) hc
      simp only [List.getElem?_take, List.getElem?_drop] at this
      simpa using this
    rw [h1]
    have h3 : y0.1 = DataW.lit (.string s.data.toList) := by rw [hb]
    rw [h3] at w0
    injection w0 with w0
    injection w0 with w0
    have : s = ⟨[UInt8.ofNat (ltr k)].toArray⟩ := by
      cases s with
      | mk d => exact congrArg ByteArray.mk (by rw [w0])
    rw [this]
  · have ey : y1 = (slD (wid k), y1.2) := by rw [s1]
    rw [ey] at t1
    obtain ⟨a, c, hcs, h4, h5⟩ := slots_of (wid k) t1
    refine ⟨a, c, ?_, h4, h5⟩
    have := congrArg (·[0]?) hcs
    simp only [List.getElem?_take, List.getElem?_drop] at this
    simpa using this
end
set_option maxRecDepth 100000 in
theorem frm_met {W : World} {r : List (String × DataW Unit)} (h : laidMet Tryd.prog (("arrears/lockbox.forms", Rows.laid_arrears_lockbox_forms) :: r) W) : FormW W := by
  obtain ⟨ps, ⟨g', t', cs, fuel, p, q, hg', ht', hvar, hd, _, _⟩, _⟩ := h
  obtain rfl := Option.some.inj (gFrm.symm.trans hg')
  obtain rfl := Option.some.inj (tyFrm.symm.trans ht')
  have key := frm_cells hd
  refine ⟨fun k hk => ?_, fun k hk => ?_⟩
  · rw [World.var?_cell gFrm hvar (k * 2)]
    simpa using (key k hk).1
  · obtain ⟨a, c, h1, h2, h3⟩ := (key k hk).2
    have hw : 0 < (wid k).length := by unfold wid; split <;> (try split) <;> decide
    obtain ⟨g, o, rfl, lt, _⟩ := h3 0 hw
    refine ⟨g, o, c, ?_, h2, lt, fun i x hi => ?_⟩
    · rw [World.var?_cell gFrm hvar (k * 2 + 1)]
      simpa using h1
    · obtain ⟨hi1, rfl⟩ := List.getElem?_eq_some_iff.1 hi
      obtain ⟨g', o', e, _, c0⟩ := h3 i hi1
      cases e
      rw [c0, List.getD_eq_getElem?_getD, List.getElem?_eq_getElem hi1]
      rfl
section
variable {H : Type} {enc : TypeId × Value → H} {W : World}
set_option maxRecDepth 100000 in
theorem it_cells {fuel : Nat} {l : List Value} {x : DataW H × List MemPlace} (hf : DataW.trod enc Tryd.prog W 0 (fun _ => true) true fuel 43 l = some x) : ∃ y : It, l = itL y := by
  obtain ⟨ys, kk, hkk, hdd, hlen, hyl, hfl⟩ := DataW.trod_struct Tryd.underlying43 hf
  have cI : Tryd.prog.cellsOf 3 = 1 := by kernel_rfl
  have cL : Tryd.prog.cellsOf 2 = 1 := by kernel_rfl
  have cT : Tryd.prog.cellsOf 43 = 2 := by kernel_rfl
  rw [cT] at hlen
  match ys, hyl, l, hlen with
  | [y0, y1], _, [v0, v1], _ =>
    have t0 := hfl 0 _ rfl
    have t1 := hfl 1 _ rfl
    simp [cI, cL] at t0 t1
    obtain ⟨n0, e0, _, f0⟩ := DataW.trod_int Tryd.underlying3 t0
    obtain ⟨n1, e1, _, f1⟩ := DataW.trod_int Tryd.underlying2 t1
    simp at e0 e1
    subst e0 e1
    exact ⟨⟨n0, n1⟩, rfl⟩
set_option maxRecDepth 100000 in
theorem its_open {fuel : Nat} {s : Option Addr} {n c : Nat} {x : DataW H × List MemPlace} (hf : DataW.trod enc Tryd.prog W 0 (fun _ => true) true fuel 22 [.slice s n c] = some x) : ∃ its : List It, its.length = n ∧ n ≤ maxLen ∧ RdI W (.slice s n c) its := by
  rcases Go.Deep.open_slice Tryd.underlying22 hf with ⟨hcs, _⟩ | ⟨a, len, cap, m, q, D, Pl, hcs, _, hl, hm, hmm, hd, hx⟩
  · simp at hcs
    obtain ⟨rfl, rfl, rfl⟩ := hcs
    exact ⟨[], rfl, by simp, ⟨none, 0, rfl, Nat.le_refl _, fun _ => rfl, fun i o hi => by simp at hi⟩⟩
  · simp at hcs
    obtain ⟨rfl, rfl, rfl⟩ := hcs
    have ce : Tryd.prog.cellsOf 43 = 2 := by kernel_rfl
    rw [ce] at hx
    simp only [if_true] at hmm
    obtain ⟨b, off, spot⟩ := a
    have hnm : n ≤ maxLen := by omega
    by_cases h0 : n = 0
    · subst h0
      exact ⟨[], rfl, by simp, ⟨_, c, rfl, Nat.zero_le _, (fun e => by cases e), fun i o hi => by simp at hi⟩⟩
    have hspot : spot = none := by
      obtain ⟨cs', g1, _⟩ := hx 0 (by omega)
      obtain ⟨_, hlen, hcell⟩ := World.cells?_some g1
      have := hcell 0 (by omega)
      rw [List.getElem?_eq_getElem (by omega)] at this
      simpa [Addr.add] using World.cell?_spot this
    subst hspot
    have key2 : ∀ i, ∃ y : It, i < n → b < W.heap.size ∧ ∀ j u, (itL y)[j]? = some u → W.cell? ⟨b, off + i * 2 + j, none⟩ = some u := fun i => by
      by_cases hi : i < n
      · obtain ⟨cs', g1, g2⟩ := hx i (by omega)
        obtain ⟨_, hlen, hcell⟩ := World.cells?_some g1
        obtain ⟨y, rfl⟩ := it_cells g2
        have cj : ∀ j u, (itL y)[j]? = some u → W.cell? ⟨b, off + i * 2 + j, none⟩ = some u := fun j u hj => by
          have hj7 : j < 2 := (List.getElem?_eq_some_iff.1 hj).1
          have := hcell j hj7
          rw [Addr.add_lit, Addr.add_lit] at this
          rw [this]; exact hj
        exact ⟨y, fun _ => ⟨World.block_lt_of_cell? W _ (cj 0 _ rfl), cj⟩⟩
      · exact ⟨⟨0, 0⟩, fun h => absurd h hi⟩
    let f := fun i => Classical.choose (key2 i)
    have hf2 := fun i => Classical.choose_spec (key2 i)
    refine ⟨(List.range n).map f, by simp, hnm, ⟨some ⟨b, off, none⟩, c, by simp, by simpa using hl, (fun e => by cases e), fun i o hi => ?_⟩⟩
    have hin : i < n := by
      have := (List.getElem?_eq_some_iff.1 hi).1
      simpa using this
    have e : o = f i := by
      rw [List.getElem?_map, List.getElem?_range hin] at hi
      simpa using hi.symm
    subst e
    obtain ⟨k1, k2⟩ := hf2 i hin
    exact ⟨b, off, rfl, k1, k2⟩
set_option maxRecDepth 100000 in
theorem batch_open {base : Nat} {v : Value} {d : DataW H} {ps : List MemPlace} (hval : Value.okWide Tryd.prog W .any base 24 v)
    (hd : DataW.Trod enc Tryd.prog W 0 (fun _ => true) true 24 v d ps) : ∃ (b : Bt) (s : Value), v = btV b s ∧ RdI W s b.its ∧ b.its.length ≤ maxLen := by
  obtain ⟨cs, rfl, hs⟩ := okWide_struct Tryd.underlying24 hval
  obtain ⟨fuel, hf⟩ := hd
  obtain ⟨ys, kk, hkk, hdx, hlen, hyl, hfl⟩ := DataW.trod_struct Tryd.underlying24 hf
  have cI : Tryd.prog.cellsOf 3 = 1 := by kernel_rfl
  have cS : Tryd.prog.cellsOf 22 = 1 := by kernel_rfl
  have cT : Tryd.prog.cellsOf 24 = 3 := by kernel_rfl
  rw [cT] at hs
  obtain ⟨l⟩ := cs
  simp at hs
  simp only [Value.cells] at hfl
  match ys, hyl, l, hs with
  | [y0, y1, y2], _, [v0, v1, v2], _ =>
    have t0 := hfl 0 _ rfl
    have t1 := hfl 1 _ rfl
    have t2 := hfl 2 _ rfl
    simp [cI, cS] at t0 t1 t2
    obtain ⟨n0, e0, _, f0⟩ := DataW.trod_int Tryd.underlying3 t0
    obtain ⟨n1, e1, _, f1⟩ := DataW.trod_int Tryd.underlying3 t1
    simp at e0 e1
    subst e0 e1
    have hsl : ∃ s n c, v2 = .slice s n c := by
      rcases Go.Deep.open_slice Tryd.underlying22 t2 with ⟨hcs, _⟩ | ⟨a, len, cap, m, q, D, Pl, hcs, _⟩
      · simp at hcs
        exact ⟨_, _, _, hcs⟩
      · simp at hcs
        exact ⟨_, _, _, hcs⟩
    obtain ⟨s, n, c, rfl⟩ := hsl
    obtain ⟨its, h1, h2, h3⟩ := its_open t2
    exact ⟨⟨n0, n1, its⟩, _, rfl, h3, by show its.length ≤ _; omega⟩
end
/-- A world for the witness: the tables as their initialisers lay them. -/
noncomputable def laidWorld (os : Os) : World := World.doorLaid Tryd.prog 400 os
end Go.Proofs.YtnjpmihffenkcaaDoor
