/-
  Ours: books that came in, opened.
-/
import Derived.Test.YtcigbghbiapohaaLedOpen
import Derived.Test.YtcigbghbiapohaaLedTot
namespace Go.Proofs.Ytcigbghbiapohaa
open Go.ChangeShapes Go.WideShapes Go.ChangeAt Go.RowKit LedM

section
variable {H : Type} {enc : TypeId × Value → H} {W : World}
theorem addr_litB (b o i : Nat) : (⟨b, o, none⟩ : Addr).add i = ⟨b, o + i, none⟩ := by unfold Addr.add; split <;> simp_all

set_option maxRecDepth 100000 in
theorem books_open {s : Option Addr} {n c : Nat} {d : DataW H} {ps : List MemPlace} (h : DataW.Trod enc Try.prog W 0 (fun _ => true) true 22 (.slice s n c) d ps) (hk : Rows.uptoBulk d ≤ 1048576) :
    ∃ es : List (List Int), es.length = n ∧ RdBk W (.slice s n c) es ∧ (∀ e ∈ es, BkOk e) ∧ es.length ≤ 1048576 := by
  obtain ⟨fuel, hf⟩ := h
  rcases Go.Deep.open_slice Try.underlying22 hf with ⟨hcs, _⟩ | ⟨a, len, cap, m, q, D, Pl, hcs, _, hl, hm, hmm, hd, hx⟩
  · simp [Value.cells] at hcs
    obtain ⟨rfl, rfl, rfl⟩ := hcs
    exact ⟨[], rfl, ⟨none, 0, rfl, Nat.le_refl _, fun _ => rfl, fun i hi => by simp at hi⟩, (fun c hc => by cases hc), by simp⟩
  · simp [Value.cells] at hcs
    obtain ⟨rfl, rfl, rfl⟩ := hcs
    have ce : Try.prog.cellsOf 25 = 12 := by kernel_rfl
    rw [ce] at hx
    simp only [if_true] at hmm
    have hd1 : d = .slice ((List.range n).map D) ((List.range (m - n)).map fun j => D (n + j)) := (Prod.mk.inj hd).1
    have hn : n ≤ 1048576 := by
      have h1 := bulk_len ((List.range n).map D)
      rw [List.length_map, List.length_range] at h1
      rw [hd1] at hk
      simp only [Rows.uptoBulk] at hk
      omega
    obtain ⟨b, off, spot⟩ := a
    by_cases h0 : n = 0
    · subst h0
      exact ⟨[], rfl, ⟨_, c, rfl, Nat.zero_le _, (fun h => by cases h), fun i hi => by simp at hi⟩, (fun c hc => by cases hc), by simp⟩
    have hspot : spot = none := by
      obtain ⟨cs', g1, _⟩ := hx 0 (by omega)
      obtain ⟨_, hlen, hcell⟩ := World.cells?_some g1
      have := hcell 0 (by omega)
      rw [List.getElem?_eq_getElem (by omega)] at this
      simpa [Addr.add] using World.cell?_spot this
    subst hspot
    have key : ∀ i, ∃ e : List Int, BkOk e ∧ (i < n → b < W.heap.size ∧ W.rangeAt b (off + i * 12) (bkL e)) := fun i => by
      by_cases hi : i < n
      · obtain ⟨cs', g1, g2⟩ := hx i (by omega)
        obtain ⟨_, hlen, hcell⟩ := World.cells?_some g1
        obtain ⟨e, rfl, ok⟩ := book_cells g2
        have r : W.rangeAt b (off + i * 12) (bkL e) := fun j u hj => by
          have hj3 : j < 12 := by have := (List.getElem?_eq_some_iff.1 hj).1; rwa [bkL_len, ok.1] at this
          have := hcell j hj3
          rw [addr_litB, addr_litB] at this
          rw [this]; exact hj
        refine ⟨e, ok, fun _ => ⟨?_, r⟩⟩
        have c0 := r 0 _ (bkL_at (by rw [ok.1]; omega))
        exact World.block_lt_of_cell? W _ c0
      · exact ⟨zeroL, ⟨rfl, fun k => by
          have e : zeroL.getD k 0 = 0 := by unfold zeroL; rw [List.getD_eq_getElem?_getD, List.getElem?_replicate]; split <;> rfl
          rw [e]; exact ⟨by decide, by decide⟩⟩, fun h => absurd h hi⟩
    let f := fun i => Classical.choose (key i)
    have hf1 : ∀ i, BkOk (f i) := fun i => (Classical.choose_spec (key i)).1
    have hf2 := fun i => (Classical.choose_spec (key i)).2
    refine ⟨(List.range n).map f, by simp, ⟨some ⟨b, off, none⟩, c, by simp, by simpa using hl, (fun h => by cases h), fun i hi => ?_⟩, fun x hx => ?_, by simpa using hn⟩
    · have hin : i < n := by simpa using hi
      have e : bN ((List.range n).map f) i = f i := by simp [bN, List.getD_eq_getElem?_getD, hin]
      rw [e]
      obtain ⟨k1, k2⟩ := hf2 i hin
      exact ⟨b, off, rfl, k1, k2⟩
    · obtain ⟨i, _, rfl⟩ := List.mem_map.1 hx
      exact hf1 i
set_option maxRecDepth 100000 in
theorem books_open_all {s : Option Addr} {n c : Nat} {d : DataW H} {ps : List MemPlace} (h : DataW.Trod enc Try.prog W 0 (fun _ => true) true 22 (.slice s n c) d ps) :
    ∃ es : List (List Int), es.length = n ∧ RdBk W (.slice s n c) es ∧ (∀ e ∈ es, BkOk e) := by
  obtain ⟨fuel, hf⟩ := h
  rcases Go.Deep.open_slice Try.underlying22 hf with ⟨hcs, _⟩ | ⟨a, len, cap, m, q, D, Pl, hcs, _, hl, hm, hmm, hd, hx⟩
  · simp [Value.cells] at hcs
    obtain ⟨rfl, rfl, rfl⟩ := hcs
    exact ⟨[], rfl, ⟨none, 0, rfl, Nat.le_refl _, fun _ => rfl, fun i hi => by simp at hi⟩, (fun c hc => by cases hc)⟩
  · simp [Value.cells] at hcs
    obtain ⟨rfl, rfl, rfl⟩ := hcs
    have ce : Try.prog.cellsOf 25 = 12 := by kernel_rfl
    rw [ce] at hx
    simp only [if_true] at hmm
    obtain ⟨b, off, spot⟩ := a
    by_cases h0 : n = 0
    · subst h0
      exact ⟨[], rfl, ⟨_, c, rfl, Nat.zero_le _, (fun h => by cases h), fun i hi => by simp at hi⟩, (fun c hc => by cases hc)⟩
    have hspot : spot = none := by
      obtain ⟨cs', g1, _⟩ := hx 0 (by omega)
      obtain ⟨_, hlen, hcell⟩ := World.cells?_some g1
      have := hcell 0 (by omega)
      rw [List.getElem?_eq_getElem (by omega)] at this
      simpa [Addr.add] using World.cell?_spot this
    subst hspot
    have key : ∀ i, ∃ e : List Int, BkOk e ∧ (i < n → b < W.heap.size ∧ W.rangeAt b (off + i * 12) (bkL e)) := fun i => by
      by_cases hi : i < n
      · obtain ⟨cs', g1, g2⟩ := hx i (by omega)
        obtain ⟨_, hlen, hcell⟩ := World.cells?_some g1
        obtain ⟨e, rfl, ok⟩ := book_cells g2
        have r : W.rangeAt b (off + i * 12) (bkL e) := fun j u hj => by
          have hj3 : j < 12 := by have := (List.getElem?_eq_some_iff.1 hj).1; rwa [bkL_len, ok.1] at this
          have := hcell j hj3
          rw [addr_litB, addr_litB] at this
          rw [this]; exact hj
        refine ⟨e, ok, fun _ => ⟨?_, r⟩⟩
        have c0 := r 0 _ (bkL_at (by rw [ok.1]; omega))
        exact World.block_lt_of_cell? W _ c0
      · exact ⟨zeroL, ⟨rfl, fun k => by
          have e : zeroL.getD k 0 = 0 := by unfold zeroL; rw [List.getD_eq_getElem?_getD, List.getElem?_replicate]; split <;> rfl
          rw [e]; exact ⟨by decide, by decide⟩⟩, fun h => absurd h hi⟩
    let f := fun i => Classical.choose (key i)
    have hf1 : ∀ i, BkOk (f i) := fun i => (Classical.choose_spec (key i)).1
    have hf2 := fun i => (Classical.choose_spec (key i)).2
    refine ⟨(List.range n).map f, by simp, ⟨some ⟨b, off, none⟩, c, by simp, by simpa using hl, (fun h => by cases h), fun i hi => ?_⟩, fun x hx => ?_⟩
    · have hin : i < n := by simpa using hi
      have e : bN ((List.range n).map f) i = f i := by simp [bN, List.getD_eq_getElem?_getD, hin]
      rw [e]
      obtain ⟨k1, k2⟩ := hf2 i hin
      exact ⟨b, off, rfl, k1, k2⟩
    · obtain ⟨i, _, rfl⟩ := List.mem_map.1 hx
      exact hf1 i
end
end Go.Proofs.Ytcigbghbiapohaa
