/-
  Ours: movements that came in, opened (in full: no bound is asked).
-/
import Derived.Test.YtmennknknecgjaaDoorLedOpen
import Derived.Test.YtmennknknecgjaaDoorStRow
namespace Go.Proofs.YtmennknknecgjaaDoor
open Go.ChangeShapes Go.WideShapes Go.ChangeAt Go.RowKit LedM StM

section
variable {H : Type} {enc : TypeId × Value → H} {W : World}
theorem addr_litS (b o i : Nat) : (⟨b, o, none⟩ : Addr).add i = ⟨b, o + i, none⟩ := by unfold Addr.add; split <;> simp_all
set_option maxRecDepth 100000 in
theorem mo_cells {fuel : Nat} {l : List Value} {x : DataW H × List MemPlace} (hf : DataW.trod enc Tryd.prog W 0 (fun _ => true) true fuel 29 l = some x) :
    ∃ m : List Int, l = bkL m ∧ MoOk m := by
  obtain ⟨ys, kk, hkk, hdd, hlen, hyl, hfl⟩ := DataW.trod_struct Tryd.underlying29 hf
  have cI : Tryd.prog.cellsOf 3 = 1 := by kernel_rfl
  have cB : Tryd.prog.cellsOf 27 = 12 := by kernel_rfl
  have cT : Tryd.prog.cellsOf 29 = 14 := by kernel_rfl
  rw [cT] at hlen
  match ys, hyl, l, hlen with
  | [y0, y1, y2], _, [v0, v1, u0, u1, u2, u3, u4, u5, u6, u7, u8, u9, u10, u11], _ =>
    have t0 := hfl 0 _ rfl
    have t1 := hfl 1 _ rfl
    have t2 := hfl 2 _ rfl
    simp [cI, cB] at t0 t1 t2
    obtain ⟨n0, e0, _, f0⟩ := DataW.trod_int Tryd.underlying3 t0
    obtain ⟨n1, e1, _, f1⟩ := DataW.trod_int Tryd.underlying3 t1
    obtain ⟨bk, eb, okb⟩ := book_cells t2
    simp at e0 e1
    subst e0 e1
    refine ⟨n0 :: n1 :: bk, ?_, by simp [okb.1], fun k => ?_⟩
    · show _ :: _ :: _ = _ :: _ :: bkL bk
      rw [← eb]
    · match k with
      | 0 => exact bounds f0
      | 1 => exact bounds f1
      | k + 2 => exact okb.2 k

set_option maxRecDepth 100000 in
theorem moves_open {s : Option Addr} {n c : Nat} {d : DataW H} {ps : List MemPlace} (h : DataW.Trod enc Tryd.prog W 0 (fun _ => true) true 22 (.slice s n c) d ps) :
    ∃ ms : List (List Int), ms.length = n ∧ RdMo W (.slice s n c) ms ∧ (∀ m ∈ ms, MoOk m) := by
  obtain ⟨fuel, hf⟩ := h
  rcases Go.Deep.open_slice Tryd.underlying22 hf with ⟨hcs, _⟩ | ⟨a, len, cap, m, q, D, Pl, hcs, _, hl, hm, hmm, hd, hx⟩
  · simp [Value.cells] at hcs
    obtain ⟨rfl, rfl, rfl⟩ := hcs
    exact ⟨[], rfl, ⟨none, 0, rfl, Nat.le_refl _, fun _ => rfl, fun i m hi => by simp at hi⟩, (fun c hc => by cases hc)⟩
  · simp [Value.cells] at hcs
    obtain ⟨rfl, rfl, rfl⟩ := hcs
    have ce : Tryd.prog.cellsOf 29 = 14 := by kernel_rfl
    rw [ce] at hx
    simp only [if_true] at hmm
    obtain ⟨b, off, spot⟩ := a
    by_cases h0 : n = 0
    · subst h0
      exact ⟨[], rfl, ⟨_, c, rfl, Nat.zero_le _, (fun h => by cases h), fun i m hi => by simp at hi⟩, (fun c hc => by cases hc)⟩
    have hspot : spot = none := by
      obtain ⟨cs', g1, _⟩ := hx 0 (by omega)
      obtain ⟨_, hlen, hcell⟩ := World.cells?_some g1
      have := hcell 0 (by omega)
      rw [List.getElem?_eq_getElem (by omega)] at this
      simpa [Addr.add] using World.cell?_spot this
    subst hspot
    have key : ∀ i, ∃ e : List Int, MoOk e ∧ (i < n → b < W.heap.size ∧ W.rangeAt b (off + i * 14) (bkL e)) := fun i => by
      by_cases hi : i < n
      · obtain ⟨cs', g1, g2⟩ := hx i (by omega)
        obtain ⟨_, hlen, hcell⟩ := World.cells?_some g1
        obtain ⟨e, rfl, ok⟩ := mo_cells g2
        have r : W.rangeAt b (off + i * 14) (bkL e) := fun j u hj => by
          have hj3 : j < 14 := by have := (List.getElem?_eq_some_iff.1 hj).1; rwa [bkL_len, ok.1] at this
          have := hcell j hj3
          rw [addr_litS, addr_litS] at this
          rw [this]; exact hj
        refine ⟨e, ok, fun _ => ⟨?_, r⟩⟩
        have c0 := r 0 _ (bkL_at (by rw [ok.1]; omega))
        exact World.block_lt_of_cell? W _ c0
      · exact ⟨List.replicate 14 0, ⟨rfl, fun k => by
          have e : (List.replicate 14 (0 : Int)).getD k 0 = 0 := by rw [List.getD_eq_getElem?_getD, List.getElem?_replicate]; split <;> rfl
          rw [e]; exact ⟨by decide, by decide⟩⟩, fun h => absurd h hi⟩
    let f := fun i => Classical.choose (key i)
    have hf1 : ∀ i, MoOk (f i) := fun i => (Classical.choose_spec (key i)).1
    have hf2 := fun i => (Classical.choose_spec (key i)).2
    refine ⟨(List.range n).map f, by simp, ⟨some ⟨b, off, none⟩, c, by simp, by simpa using hl, (fun h => by cases h), fun i m hi => ?_⟩, fun x hx => ?_⟩
    · have hin : i < n := by have := (List.getElem?_eq_some_iff.1 hi).1; simpa using this
      have e : f i = m := by simpa [hin] using hi
      rw [← e]
      obtain ⟨k1, k2⟩ := hf2 i hin
      exact ⟨b, off, rfl, k1, k2⟩
    · obtain ⟨i, _, rfl⟩ := List.mem_map.1 hx
      exact hf1 i
end
end Go.Proofs.YtmennknknecgjaaDoor
