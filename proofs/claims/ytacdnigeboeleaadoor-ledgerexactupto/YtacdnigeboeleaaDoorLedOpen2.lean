/-
  Ours: entries that came in, opened.
-/
import Derived.Test.YtacdnigeboeleaaDoorWirRow
import Derived.Test.YtacdnigeboeleaaDoorLedEnt
import Derived.ChangeArms
import Derived.OpenShut
import Derived.Deep.Slices
namespace Go.Proofs.YtacdnigeboeleaaDoor
open Go.ChangeShapes Go.WideShapes Go.ChangeAt Go.RowKit LedM

section
variable {H : Type} {enc : TypeId × Value → H} {W : World}
theorem bulk_elem {d : DataW H} {l r : List (DataW H)} (h : d ∈ l) (hk : Rows.uptoBulk (DataW.slice l r) ≤ 1048576) : Rows.uptoBulk d ≤ 1048576 := by
  have := bulk_mem h
  simp only [Rows.uptoBulk] at hk
  omega
theorem addr_lit (b o i : Nat) : (⟨b, o, none⟩ : Addr).add i = ⟨b, o + i, none⟩ := by unfold Addr.add; split <;> simp_all

set_option maxRecDepth 100000 in
theorem ent_cells {fuel : Nat} {l : List Value} {x : DataW H × List MemPlace} (hf : DataW.trod enc Tryd.prog W 0 (fun _ => true) true fuel 41 l = some x) :
    ∃ e : Ent, l = entL e ∧ EntOk e := by
  obtain ⟨ys, kk, hkk, hdd, hlen, hyl, hfl⟩ := DataW.trod_struct Tryd.underlying41 hf
  have cI : Tryd.prog.cellsOf 3 = 1 := by kernel_rfl
  have cL : Tryd.prog.cellsOf 2 = 1 := by kernel_rfl
  have cT : Tryd.prog.cellsOf 41 = 3 := by kernel_rfl
  rw [cT] at hlen
  match ys, hyl, l, hlen with
  | [y0, y1, y2], _, [v0, v1, v2], _ =>
    have t0 := hfl 0 _ rfl
    have t1 := hfl 1 _ rfl
    have t2 := hfl 2 _ rfl
    simp [cI, cL] at t0 t1 t2
    obtain ⟨n0, e0, _, f0⟩ := DataW.trod_int Tryd.underlying3 t0
    obtain ⟨n1, e1, _, f1⟩ := DataW.trod_int Tryd.underlying3 t1
    obtain ⟨n2, e2, _, f2⟩ := DataW.trod_int Tryd.underlying2 t2
    simp at e0 e1 e2
    subst e0 e1 e2
    exact ⟨⟨n0, n1, n2⟩, rfl, bounds f0, bounds f1, bounds f2⟩

set_option maxRecDepth 100000 in
theorem entries_open {s : Option Addr} {n c : Nat} {d : DataW H} {ps : List MemPlace} (h : DataW.Trod enc Tryd.prog W 0 (fun _ => true) true 26 (.slice s n c) d ps) (hk : Rows.uptoBulk d ≤ 1048576) :
    ∃ es : List Ent, es.length = n ∧ RdE W (.slice s n c) es ∧ (∀ e ∈ es, EntOk e) ∧ es.length ≤ 1048576 := by
  obtain ⟨fuel, hf⟩ := h
  rcases Go.Deep.open_slice Tryd.underlying26 hf with ⟨hcs, _⟩ | ⟨a, len, cap, m, q, D, Pl, hcs, _, hl, hm, hmm, hd, hx⟩
  · simp [Value.cells] at hcs
    obtain ⟨rfl, rfl, rfl⟩ := hcs
    exact ⟨[], rfl, ⟨none, 0, rfl, Nat.le_refl _, fun _ => rfl, fun i hi => by simp at hi⟩, (fun c hc => by cases hc), by simp⟩
  · simp [Value.cells] at hcs
    obtain ⟨rfl, rfl, rfl⟩ := hcs
    have ce : Tryd.prog.cellsOf 41 = 3 := by kernel_rfl
    rw [ce] at hx
    simp only [if_true] at hmm
    have hd1 : d = .slice ((List.range n).map D) ((List.range (m - n)).map fun j => D (n + j)) := (Prod.mk.inj hd).1
    have hn : n ≤ 1048576 := by
      have h1 := bulk_len ((List.range n).map D)
      rw [List.length_map, List.length_range] at h1
      rw [hd1] at hk
      simp only [Rows.uptoBulk] at hk
      omega
    obtain ⟨b, off, spot⟩ := a
    by_cases h0 : n = 0
    · subst h0
      exact ⟨[], rfl, ⟨_, c, rfl, Nat.zero_le _, (fun h => by cases h), fun i hi => by simp at hi⟩, (fun c hc => by cases hc), by simp⟩
    have hspot : spot = none := by
      obtain ⟨cs', g1, _⟩ := hx 0 (by omega)
      obtain ⟨_, hlen, hcell⟩ := World.cells?_some g1
      have := hcell 0 (by omega)
      rw [List.getElem?_eq_getElem (by omega)] at this
      simpa [Addr.add] using World.cell?_spot this
    subst hspot
    have key : ∀ i, ∃ e : Ent, EntOk e ∧ (i < n → b < W.heap.size ∧ W.rangeAt b (off + i * 3) (entL e)) := fun i => by
      by_cases hi : i < n
      · obtain ⟨cs', g1, g2⟩ := hx i (by omega)
        obtain ⟨_, hlen, hcell⟩ := World.cells?_some g1
        obtain ⟨e, rfl, ok⟩ := ent_cells g2
        have r : W.rangeAt b (off + i * 3) (entL e) := fun j u hj => by
          have hj3 : j < 3 := (List.getElem?_eq_some_iff.1 hj).1
          have := hcell j hj3
          rw [addr_lit, addr_lit] at this
          rw [this]; exact hj
        refine ⟨e, ok, fun _ => ⟨?_, r⟩⟩
        have c0 := r 0 _ rfl
        exact World.block_lt_of_cell? W _ c0
      · exact ⟨⟨0, 0, 0⟩, ⟨⟨by decide, by decide⟩, ⟨by decide, by decide⟩, ⟨by decide, by decide⟩⟩, fun h => absurd h hi⟩
    let f := fun i => Classical.choose (key i)
    have hf1 : ∀ i, EntOk (f i) := fun i => (Classical.choose_spec (key i)).1
    have hf2 := fun i => (Classical.choose_spec (key i)).2
    refine ⟨(List.range n).map f, by simp, ⟨some ⟨b, off, none⟩, c, by simp, by simpa using hl, (fun h => by cases h), fun i hi => ?_⟩, fun x hx => ?_, by simpa using hn⟩
    · have hin : i < n := by simpa using hi
      have e : eN ((List.range n).map f) i = f i := by simp [eN, List.getD_eq_getElem?_getD, hin]
      rw [e]
      obtain ⟨k1, k2⟩ := hf2 i hin
      exact ⟨b, off, rfl, k1, k2⟩
    · obtain ⟨i, _, rfl⟩ := List.mem_map.1 hx
      exact hf1 i
end
end Go.Proofs.YtacdnigeboeleaaDoor
