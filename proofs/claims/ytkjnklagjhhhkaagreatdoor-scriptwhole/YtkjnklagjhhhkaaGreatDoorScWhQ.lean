/-
  Ours: an argument that is a list of operations, opened.
-/
import Derived.Test.YtkjnklagjhhhkaaGreatDoorScWhO
import Derived.Test.YtkjnklagjhhhkaaGreatDoorWirRow
import Derived.ChangeArms
import Derived.Deep.Slices
namespace Go.Proofs.YtkjnklagjhhhkaaGreatDoor
open Go.ChangeShapes Go.WideShapes Go.ChangeAt Go.RowKit ScF

section
variable {H : Type} {enc : TypeId × Value → H} {W : World}
set_option maxRecDepth 100000 in
theorem opq_cells {fuel : Nat} {l : List Value} {x : DataW H × List MemPlace} (hf : DataW.trod enc Tryz.prog W 0 (fun _ => true) true fuel 24 l = some x) :
    ∃ o : Cm, l = opL o ∧ o.Ok ∧ o.text.length ≤ maxLen := by
  obtain ⟨ys, kk, hkk, hdd, hlen, hyl, hfl⟩ := DataW.trod_struct Tryz.underlying24 hf
  have cI : Tryz.prog.cellsOf 3 = 1 := by kernel_rfl
  have cL : Tryz.prog.cellsOf 2 = 1 := by kernel_rfl
  have cS : Tryz.prog.cellsOf 9 = 1 := by kernel_rfl
  have cT : Tryz.prog.cellsOf 24 = 7 := by kernel_rfl
  rw [cT] at hlen
  match ys, hyl, l, hlen with
  | [y0, y1, y2, y3, y4, y5, y6], _, [v0, v1, v2, v3, v4, v5, v6], _ =>
    have t0 := hfl 0 _ rfl
    have t1 := hfl 1 _ rfl
    have t2 := hfl 2 _ rfl
    have t3 := hfl 3 _ rfl
    have t4 := hfl 4 _ rfl
    have t5 := hfl 5 _ rfl
    have t6 := hfl 6 _ rfl
    simp [cI, cL, cS] at t0 t1 t2 t3 t4 t5 t6
    obtain ⟨n0, e0, _, f0⟩ := DataW.trod_int Tryz.underlying3 t0
    obtain ⟨n1, e1, _, f1⟩ := DataW.trod_int Tryz.underlying3 t1
    obtain ⟨n2, e2, _, f2⟩ := DataW.trod_int Tryz.underlying2 t2
    obtain ⟨n3, e3, _, f3⟩ := DataW.trod_int Tryz.underlying2 t3
    obtain ⟨n4, e4, _, f4⟩ := DataW.trod_int Tryz.underlying3 t4
    obtain ⟨n5, e5, _, f5⟩ := DataW.trod_int Tryz.underlying3 t5
    obtain ⟨s6, e6, _, f6⟩ := DataW.trod_string Tryz.underlying9 t6
    simp at e0 e1 e2 e3 e4 e5 e6
    subst e0 e1 e2 e3 e4 e5 e6
    refine ⟨⟨n0, n1, n2, n3, n4, n5, s6.data.toList⟩, ?_, ⟨bounds f0, bounds f1, bounds f2, bounds f3, bounds f4, bounds f5⟩, ?_⟩
    · show [_, _, _, _, _, _, Value.string s6] = _
      rfl
    · show s6.data.toList.length ≤ _
      rw [Array.length_toList]
      exact f6
set_option maxRecDepth 100000 in
theorem ops_open {s : Option Addr} {n c : Nat} {d : DataW H} {ps : List MemPlace} (h : DataW.Trod enc Tryz.prog W 0 (fun _ => true) true 34 (.slice s n c) d ps) :
    ∃ os : List Cm, os.length = n ∧ RdQ W (.slice s n c) os ∧ ∀ o ∈ os, o.Ok ∧ o.text.length ≤ maxLen := by
  obtain ⟨fuel, hf⟩ := h
  rcases Go.Deep.open_slice Tryz.underlying34 hf with ⟨hcs, _⟩ | ⟨a, len, cap, m, q, D, Pl, hcs, _, hl, hm, hmm, hd, hx⟩
  · simp [Value.cells] at hcs
    obtain ⟨rfl, rfl, rfl⟩ := hcs
    exact ⟨[], rfl, ⟨none, 0, rfl, fun i o hi => by simp at hi⟩, fun c hc => by cases hc⟩
  · simp [Value.cells] at hcs
    obtain ⟨rfl, rfl, rfl⟩ := hcs
    have ce : Tryz.prog.cellsOf 24 = 7 := by kernel_rfl
    rw [ce] at hx
    simp only [if_true] at hmm
    obtain ⟨b, off, spot⟩ := a
    by_cases h0 : n = 0
    · subst h0
      exact ⟨[], rfl, ⟨_, c, rfl, fun i o hi => by simp at hi⟩, fun c hc => by cases hc⟩
    have hspot : spot = none := by
      obtain ⟨cs', g1, _⟩ := hx 0 (by omega)
      obtain ⟨_, hlen, hcell⟩ := World.cells?_some g1
      have := hcell 0 (by omega)
      rw [List.getElem?_eq_getElem (by omega)] at this
      simpa [Addr.add] using World.cell?_spot this
    subst hspot
    have key2 : ∀ i, ∃ o : Cm, (o.Ok ∧ o.text.length ≤ maxLen) ∧ (i < n → b < W.heap.size ∧ ∀ j u, (opL o)[j]? = some u → W.cell? ⟨b, off + i * 7 + j, none⟩ = some u) := fun i => by
      by_cases hi : i < n
      · obtain ⟨cs', g1, g2⟩ := hx i (by omega)
        obtain ⟨_, hlen, hcell⟩ := World.cells?_some g1
        obtain ⟨o, rfl, ok, ol⟩ := opq_cells g2
        have cj : ∀ j u, (opL o)[j]? = some u → W.cell? ⟨b, off + i * 7 + j, none⟩ = some u := fun j u hj => by
          have hj7 : j < 7 := (List.getElem?_eq_some_iff.1 hj).1
          have := hcell j hj7
          rw [Addr.add_lit, Addr.add_lit] at this
          rw [this]; exact hj
        exact ⟨o, ⟨ok, ol⟩, fun _ => ⟨World.block_lt_of_cell? W _ (cj 0 _ rfl), cj⟩⟩
      · have z : i64 0 := ⟨by decide, by decide⟩
        exact ⟨⟨0, 0, 0, 0, 0, 0, []⟩, ⟨⟨z, z, z, z, z, z⟩, by simp⟩, fun h => absurd h hi⟩
    let f := fun i => Classical.choose (key2 i)
    have hf1 : ∀ i, (f i).Ok ∧ (f i).text.length ≤ maxLen := fun i => (Classical.choose_spec (key2 i)).1
    have hf2 := fun i => (Classical.choose_spec (key2 i)).2
    refine ⟨(List.range n).map f, by simp, ⟨some ⟨b, off, none⟩, c, by simp, fun i o hi => ?_⟩, fun x hx => ?_⟩
    · have hin : i < n := by
        have := (List.getElem?_eq_some_iff.1 hi).1
        simpa using this
      have e : o = f i := by
        rw [List.getElem?_map, List.getElem?_range hin] at hi
        simpa using hi.symm
      subst e
      obtain ⟨k1, k2⟩ := hf2 i hin
      exact ⟨b, off, rfl, k1, k2⟩
    · obtain ⟨i, _, rfl⟩ := List.mem_map.1 hx
      exact hf1 i
end
end Go.Proofs.YtkjnklagjhhhkaaGreatDoor
