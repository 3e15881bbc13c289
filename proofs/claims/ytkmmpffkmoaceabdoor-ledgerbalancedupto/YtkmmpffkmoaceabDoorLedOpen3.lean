/-
  Ours: lists of entries that came in, opened.
-/
import Derived.Test.YtkmmpffkmoaceabDoorLedOpen2
import Derived.Test.YtkmmpffkmoaceabDoorLedEven
namespace Go.Proofs.YtkmmpffkmoaceabDoor
open Go.ChangeShapes Go.WideShapes Go.ChangeAt Go.RowKit LedM

section
variable {H : Type} {enc : TypeId × Value → H} {W : World}
theorem slice_cells {fuel : Nat} {u : Value} {x : DataW H × List MemPlace} (hf : DataW.trod enc Tryd.prog W 0 (fun _ => true) true fuel 30 [u] = some x) : ∃ a n c, u = .slice a n c := by
  rcases Go.Deep.open_slice Tryd.underlying30 hf with ⟨hcs, _⟩ | ⟨a, len, cap, m, q, D, Pl, hcs, _⟩
  · simp at hcs; exact ⟨_, _, _, hcs⟩
  · simp at hcs; exact ⟨_, _, _, hcs⟩

set_option maxRecDepth 100000 in
theorem lists_open {s : Option Addr} {n c : Nat} {d : DataW H} {ps : List MemPlace} (h : DataW.Trod enc Tryd.prog W 0 (fun _ => true) true 48 (.slice s n c) d ps) (hk : Rows.uptoBulk d ≤ 1048576) :
    ∃ ess : List (List Ent), ess.length = n ∧ RdLL W (.slice s n c) ess ∧ (∀ es ∈ ess, (∀ e ∈ es, EntOk e) ∧ es.length ≤ 1048576) ∧ ess.length ≤ 1048576 := by
  obtain ⟨fuel, hf⟩ := h
  rcases Go.Deep.open_slice Tryd.underlying48 hf with ⟨hcs, _⟩ | ⟨a, len, cap, m, q, D, Pl, hcs, _, hl, hm, hmm, hd, hx⟩
  · simp [Value.cells] at hcs
    obtain ⟨rfl, rfl, rfl⟩ := hcs
    exact ⟨[], rfl, ⟨none, 0, rfl, fun i hi => by simp at hi⟩, (fun c hc => by cases hc), by simp⟩
  · simp [Value.cells] at hcs
    obtain ⟨rfl, rfl, rfl⟩ := hcs
    have ce : Tryd.prog.cellsOf 30 = 1 := by kernel_rfl
    rw [ce] at hx
    simp only [if_true] at hmm
    have hd1 : d = .slice ((List.range n).map D) ((List.range (m - n)).map fun j => D (n + j)) := (Prod.mk.inj hd).1
    have hn : n ≤ 1048576 := by
      have h1 := bulk_len ((List.range n).map D)
      rw [List.length_map, List.length_range] at h1
      rw [hd1] at hk
      simp only [Rows.uptoBulk] at hk
      omega
    obtain ⟨b, off, spot⟩ := a
    by_cases h0 : n = 0
    · subst h0
      exact ⟨[], rfl, ⟨_, c, rfl, fun i hi => by simp at hi⟩, (fun c hc => by cases hc), by simp⟩
    have hspot : spot = none := by
      obtain ⟨cs', g1, _⟩ := hx 0 (by omega)
      obtain ⟨_, hlen, hcell⟩ := World.cells?_some g1
      have := hcell 0 (by omega)
      rw [List.getElem?_eq_getElem (by omega)] at this
      simpa [Addr.add] using World.cell?_spot this
    subst hspot
    have key : ∀ i, ∃ es : List Ent, ((∀ e ∈ es, EntOk e) ∧ es.length ≤ 1048576) ∧ (i < n → ∃ a cc, b < W.heap.size ∧ W.cell? ⟨b, off + i, none⟩ = some (.slice a es.length cc) ∧ RdE W (.slice a es.length cc) es) := fun i => by
      by_cases hi : i < n
      · obtain ⟨cs', g1, g2⟩ := hx i (by omega)
        obtain ⟨_, hlen, hcell⟩ := World.cells?_some g1
        match cs', hlen with
        | [u], _ =>
          have c0 := hcell 0 (by omega)
          simp only [Nat.mul_one] at c0
          rw [addr_lit, addr_lit] at c0
          simp at c0
          obtain ⟨a, nn, cc, rfl⟩ := slice_cells g2
          have e2 : Rows.uptoBulk (D i) ≤ 1048576 := bulk_elem (l := (List.range n).map D) (r := (List.range (m - n)).map fun j => D (n + j)) (List.mem_map.2 ⟨i, List.mem_range.2 hi, rfl⟩) (by rw [← hd1]; exact hk)
          obtain ⟨es, l1, r1, o1, b1⟩ := entries_open (s := a) (n := nn) (c := cc) (d := D i) ⟨_, g2⟩ e2
          subst l1
          exact ⟨es, ⟨o1, b1⟩, fun _ => ⟨a, cc, World.block_lt_of_cell? W _ c0, c0, r1⟩⟩
      · exact ⟨[], ⟨(fun c hc => by cases hc), by simp⟩, fun h => absurd h hi⟩
    let f := fun i => Classical.choose (key i)
    have hf1 := fun i => (Classical.choose_spec (key i)).1
    have hf2 := fun i => (Classical.choose_spec (key i)).2
    refine ⟨(List.range n).map f, by simp, ⟨some ⟨b, off, none⟩, c, by simp, fun i hi => ?_⟩, fun x hx => ?_, by simpa using hn⟩
    · have hin : i < n := by simpa using hi
      have e : ((List.range n).map f).getD i [] = f i := by simp [List.getD_eq_getElem?_getD, hin]
      rw [e]
      obtain ⟨a, cc, k1, k2, k3⟩ := hf2 i hin
      exact ⟨b, off, a, cc, rfl, k1, k2, k3⟩
    · obtain ⟨i, _, rfl⟩ := List.mem_map.1 hx
      exact hf1 i
end
end Go.Proofs.YtkmmpffkmoaceabDoor
