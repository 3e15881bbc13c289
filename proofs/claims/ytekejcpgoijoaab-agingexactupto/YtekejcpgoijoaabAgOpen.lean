/-
  Ours: a plan and a position that came in, opened.
-/
import Derived.Test.YtekejcpgoijoaabWirRow
import Derived.Test.YtekejcpgoijoaabAgRow
import Derived.ProofKit
import Derived.ChangeArms
import Derived.OpenShut
import Derived.Deep.Slices
namespace Go.Proofs.Ytekejcpgoijoaab
open Go.ChangeShapes Go.WideShapes Go.ChangeAt Go.RowKit LedM AgM

section
variable {H : Type} {enc : TypeId × Value → H} {W : World}
theorem addr_lit (b o i : Nat) : (⟨b, o, none⟩ : Addr).add i = ⟨b, o + i, none⟩ := by unfold Addr.add; split <;> simp_all

set_option maxRecDepth 100000 in
theorem ins_cells {fuel : Nat} {l : List Value} {x : DataW H × List MemPlace} (hf : DataW.trod enc Try.prog W 0 (fun _ => true) true fuel 32 l = some x) :
    ∃ e : Ins, l = insL e ∧ InsOk e := by
  obtain ⟨ys, kk, hkk, hdd, hlen, hyl, hfl⟩ := DataW.trod_struct Try.underlying32 hf
  have cI : Try.prog.cellsOf 3 = 1 := by kernel_rfl
  have cL : Try.prog.cellsOf 2 = 1 := by kernel_rfl
  have cB : Try.prog.cellsOf 4 = 1 := by kernel_rfl
  have cT : Try.prog.cellsOf 32 = 4 := by kernel_rfl
  rw [cT] at hlen
  match ys, hyl, l, hlen with
  | [y0, y1, y2, y3], _, [v0, v1, v2, v3], _ =>
    have t0 := hfl 0 _ rfl
    have t1 := hfl 1 _ rfl
    have t2 := hfl 2 _ rfl
    have t3 := hfl 3 _ rfl
    simp [cI, cL, cB] at t0 t1 t2 t3
    obtain ⟨n0, e0, _, f0⟩ := DataW.trod_int Try.underlying3 t0
    obtain ⟨n1, e1, _, f1⟩ := DataW.trod_int Try.underlying2 t1
    obtain ⟨n2, e2, _, f2⟩ := DataW.trod_int Try.underlying2 t2
    obtain ⟨b3, e3, _⟩ := DataW.trod_bool Try.underlying4 t3
    simp at e0 e1 e2 e3
    subst e0 e1 e2 e3
    exact ⟨⟨n0, n1, n2, b3⟩, rfl, bounds f0, bounds f1, bounds f2⟩

set_option maxRecDepth 100000 in
theorem plan_open {s : Option Addr} {n c : Nat} {d : DataW H} {ps : List MemPlace} (h : DataW.Trod enc Try.prog W 0 (fun _ => true) true 22 (.slice s n c) d ps) :
    ∃ es : List Ins, es.length = n ∧ RdP W (.slice s n c) es ∧ (∀ e ∈ es, InsOk e) := by
  obtain ⟨fuel, hf⟩ := h
  rcases Go.Deep.open_slice Try.underlying22 hf with ⟨hcs, _⟩ | ⟨a, len, cap, m, q, D, Pl, hcs, _, hl, hm, hmm, hd, hx⟩
  · simp [Value.cells] at hcs
    obtain ⟨rfl, rfl, rfl⟩ := hcs
    exact ⟨[], rfl, ⟨none, 0, rfl, Nat.le_refl _, fun _ => rfl, fun i hi => by simp at hi⟩, (fun c hc => by cases hc)⟩
  · simp [Value.cells] at hcs
    obtain ⟨rfl, rfl, rfl⟩ := hcs
    have ce : Try.prog.cellsOf 32 = 4 := by kernel_rfl
    rw [ce] at hx
    simp only [if_true] at hmm
    obtain ⟨b, off, spot⟩ := a
    by_cases h0 : n = 0
    · subst h0
      exact ⟨[], rfl, ⟨_, c, rfl, Nat.zero_le _, (fun h => by cases h), fun i hi => by simp at hi⟩, (fun c hc => by cases hc)⟩
    have hspot : spot = none := by
      obtain ⟨cs', g1, _⟩ := hx 0 (by omega)
      obtain ⟨_, hlen, hcell⟩ := World.cells?_some g1
      have := hcell 0 (by omega)
      rw [List.getElem?_eq_getElem (by omega)] at this
      simpa [Addr.add] using World.cell?_spot this
    subst hspot
    have key : ∀ i, ∃ e : Ins, InsOk e ∧ (i < n → b < W.heap.size ∧ W.rangeAt b (off + i * 4) (insL e)) := fun i => by
      by_cases hi : i < n
      · obtain ⟨cs', g1, g2⟩ := hx i (by omega)
        obtain ⟨_, hlen, hcell⟩ := World.cells?_some g1
        obtain ⟨e, rfl, ok⟩ := ins_cells g2
        have r : W.rangeAt b (off + i * 4) (insL e) := fun j u hj => by
          have hj3 : j < 4 := (List.getElem?_eq_some_iff.1 hj).1
          have := hcell j hj3
          rw [addr_lit, addr_lit] at this
          rw [this]; exact hj
        refine ⟨e, ok, fun _ => ⟨?_, r⟩⟩
        have c0 := r 0 _ rfl
        exact World.block_lt_of_cell? W _ c0
      · exact ⟨iz, iz_ok, fun h => absurd h hi⟩
    let f := fun i => Classical.choose (key i)
    have hf1 : ∀ i, InsOk (f i) := fun i => (Classical.choose_spec (key i)).1
    have hf2 := fun i => (Classical.choose_spec (key i)).2
    refine ⟨(List.range n).map f, by simp, ⟨some ⟨b, off, none⟩, c, by simp, by simpa using hl, (fun h => by cases h), fun i hi => ?_⟩, fun x hx => ?_⟩
    · have hin : i < n := by simpa using hi
      have e : iN ((List.range n).map f) i = f i := by simp [iN, List.getD_eq_getElem?_getD, hin]
      rw [e]
      obtain ⟨k1, k2⟩ := hf2 i hin
      exact ⟨b, off, rfl, k1, k2⟩
    · obtain ⟨i, _, rfl⟩ := List.mem_map.1 hx
      exact hf1 i
theorem pos_open {base : Nat} {v : Value} {d : DataW H} {ps : List MemPlace} (hval : Value.okWide Try.prog W .any base 24 v)
    (hd : DataW.Trod enc Try.prog W 0 (fun _ => true) true 24 v d ps) : ∃ A R : Int, v = .agg #[.int .i64 A, .int .i64 R] ∧ LedM.i64 A ∧ LedM.i64 R := by
  obtain ⟨cs, rfl, hs⟩ := okWide_struct Try.underlying24 hval
  obtain ⟨fuel, hf⟩ := hd
  obtain ⟨ys, kk, hkk, _, hlen, hyl, hfl⟩ := DataW.trod_struct Try.underlying24 hf
  have cJ : Try.prog.cellsOf 2 = 1 := by kernel_rfl
  have cT : Try.prog.cellsOf 24 = 2 := by kernel_rfl
  rw [cT] at hs
  obtain ⟨l⟩ := cs
  simp at hs
  simp only [Value.cells] at hfl
  match ys, hyl, l, hs with
  | [y0, y1], _, [v0, v1], _ =>
    have t0 := hfl 0 _ rfl
    have t1 := hfl 1 _ rfl
    simp [cJ] at t0 t1
    obtain ⟨n0, e0, _, f0⟩ := DataW.trod_int Try.underlying2 t0
    obtain ⟨n1, e1, _, f1⟩ := DataW.trod_int Try.underlying2 t1
    simp at e0 e1
    subst e0 e1
    exact ⟨n0, n1, rfl, bounds f0, bounds f1⟩
end
end Go.Proofs.Ytekejcpgoijoaab
