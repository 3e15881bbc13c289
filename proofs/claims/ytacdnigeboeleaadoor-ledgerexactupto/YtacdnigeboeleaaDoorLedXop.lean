/-
  Ours: scripts of ledger operations: as they read; an argument that is one, opened.
-/
import Derived.Test.YtacdnigeboeleaaDoorLedOpen
import Derived.Test.YtacdnigeboeleaaDoorLedOpen2
import Derived.Test.YtacdnigeboeleaaDoorLedPost
namespace Go.Proofs.YtacdnigeboeleaaDoor
open Go.ChangeShapes Go.WideShapes Go.ChangeAt Go.RowKit LedM

structure OpE where
  kind : Int
  acc : Int
  es : List Ent
  bk : List Int
def OpEOk (o : OpE) : Prop := (∀ e ∈ o.es, EntOk e) ∧ o.es.length ≤ 1048576 ∧ BkOk o.bk
abbrev oeL (o : OpE) (x : Option Addr) (c : Nat) : List Value := .int .i64 o.kind :: .int .i64 o.acc :: .slice x o.es.length c :: bkL o.bk
/-- The slice value v reads as the script os. -/
def RdS (w : World) (v : Value) (os : List OpE) : Prop :=
  ∃ ao cap, v = .slice ao os.length cap ∧ ∀ i o, os[i]? = some o → ∃ g off x c, ao = some ⟨g, off, none⟩ ∧ g < w.heap.size ∧ w.rangeAt g (off + i * 15) (oeL o x c) ∧ RdE w (.slice x o.es.length c) o.es

section
variable {H : Type} {enc : TypeId × Value → H} {W : World}
theorem bulk_part {d : DataW H} {l : List (DataW H)} (h : d ∈ l) (hk : Rows.uptoBulk (DataW.agg l) ≤ 1048576) : Rows.uptoBulk d ≤ 1048576 := by
  have := bulk_mem h
  simp only [Rows.uptoBulk.eq_6] at hk
  omega
theorem entries_cells {fuel : Nat} {v : Value} {x : DataW H × List MemPlace} (h : DataW.trod enc Tryd.prog W 0 (fun _ => true) true fuel 26 [v] = some x) : ∃ a n c, v = .slice a n c := by
  rcases Go.Deep.open_slice Tryd.underlying26 h with ⟨hcs, _⟩ | ⟨a, len, cap, m, q, D, Pl, hcs, _⟩
  · exact ⟨none, 0, 0, by simpa using hcs⟩
  · exact ⟨some a, len, cap, by simpa using hcs⟩
set_option maxRecDepth 100000 in
theorem ope_cells {fuel : Nat} {l : List Value} {x : DataW H × List MemPlace} (hf : DataW.trod enc Tryd.prog W 0 (fun _ => true) true fuel 28 l = some x) (hk : Rows.uptoBulk x.1 ≤ 1048576) :
    ∃ (o : OpE) (a : Option Addr) (c : Nat), OpEOk o ∧ l = oeL o a c ∧ RdE W (.slice a o.es.length c) o.es := by
  have HK : Hid (Rows.uptoBulk x.1 ≤ 1048576) := hk
  clear hk
  obtain ⟨ys, kk, hkk, hdd, hlen, hyl, hfl⟩ := DataW.trod_struct Tryd.underlying28 hf
  have cI : Tryd.prog.cellsOf 3 = 1 := by kernel_rfl
  have cS : Tryd.prog.cellsOf 26 = 1 := by kernel_rfl
  have cB : Tryd.prog.cellsOf 25 = 12 := by kernel_rfl
  have cT : Tryd.prog.cellsOf 28 = 15 := by kernel_rfl
  rw [cT] at hlen
  match ys, hyl, l, hlen with
  | [y0, y1, y2, y3], _, [v0, v1, v2, u0, u1, u2, u3, u4, u5, u6, u7, u8, u9, u10, u11], _ =>
    have t0 := hfl 0 _ rfl
    have t1 := hfl 1 _ rfl
    have t2 := hfl 2 _ rfl
    have t3 := hfl 3 _ rfl
    simp [cI, cS, cB] at t0 t1 t2 t3
    obtain ⟨n0, e0, _, _⟩ := DataW.trod_int Tryd.underlying3 t0
    obtain ⟨n1, e1, _, _⟩ := DataW.trod_int Tryd.underlying3 t1
    obtain ⟨a, nn, cc, rfl⟩ := entries_cells t2
    have ed : x.1 = DataW.agg ([y0, y1, y2, y3].map (·.1)) := congrArg Prod.fst hdd
    have hb2 : Rows.uptoBulk y2.1 ≤ 1048576 := bulk_part (l := [y0, y1, y2, y3].map (·.1)) (by simp) (by rw [← ed]; exact HK.out)
    obtain ⟨es, l1, r1, ok1, hl1⟩ := entries_open (s := a) (n := nn) (c := cc) (d := y2.1) (ps := y2.2) ⟨_, t2⟩ hb2
    obtain ⟨bk, eb, okb⟩ := book_cells t3
    simp at e0 e1
    subst e0 e1 l1
    exact ⟨⟨n0, n1, es, bk⟩, a, cc, ⟨ok1, hl1, okb⟩, by show _ :: _ :: _ :: _ = _ :: _ :: _ :: bkL bk; rw [← eb], r1⟩

set_option maxRecDepth 100000 in
theorem script_open {s : Option Addr} {n c : Nat} {d : DataW H} {ps : List MemPlace} (h : DataW.Trod enc Tryd.prog W 0 (fun _ => true) true 22 (.slice s n c) d ps) (hk : Rows.uptoBulk d ≤ 1048576) :
    ∃ os : List OpE, os.length = n ∧ RdS W (.slice s n c) os ∧ (∀ o ∈ os, OpEOk o) ∧ n ≤ 1048576 := by
  obtain ⟨fuel, hf⟩ := h
  rcases Go.Deep.open_slice Tryd.underlying22 hf with ⟨hcs, _⟩ | ⟨a, len, cap, m, q, D, Pl, hcs, _, hl, hm, hmm, hd, hx⟩
  · simp [Value.cells] at hcs
    obtain ⟨rfl, rfl, rfl⟩ := hcs
    exact ⟨[], rfl, ⟨none, 0, rfl, fun i o hi => by simp at hi⟩, (fun c hc => by cases hc), by omega⟩
  · simp [Value.cells] at hcs
    obtain ⟨rfl, rfl, rfl⟩ := hcs
    have ce : Tryd.prog.cellsOf 28 = 15 := by kernel_rfl
    rw [ce] at hx
    simp only [if_true] at hmm
    have hd1 : d = .slice ((List.range n).map D) ((List.range (m - n)).map fun j => D (n + j)) := (Prod.mk.inj hd).1
    have hn : n ≤ 1048576 := by
      have h1 := bulk_len ((List.range n).map D)
      rw [List.length_map, List.length_range] at h1
      rw [hd1] at hk
      simp only [Rows.uptoBulk] at hk
      omega
    obtain ⟨b, off, spot⟩ := a
    by_cases h0 : n = 0
    · subst h0
      exact ⟨[], rfl, ⟨_, c, rfl, fun i o hi => by simp at hi⟩, (fun c hc => by cases hc), by omega⟩
    have hspot : spot = none := by
      obtain ⟨cs', g1, _⟩ := hx 0 (by omega)
      obtain ⟨_, hlen, hcell⟩ := World.cells?_some g1
      have := hcell 0 (by omega)
      rw [List.getElem?_eq_getElem (by omega)] at this
      simpa [Addr.add] using World.cell?_spot this
    subst hspot
    have key2 : ∀ i, ∃ o : OpE, OpEOk o ∧ (i < n → ∃ (x : Option Addr) (cc : Nat), b < W.heap.size ∧ W.rangeAt b (off + i * 15) (oeL o x cc) ∧ RdE W (.slice x o.es.length cc) o.es) := fun i => by
      by_cases hi : i < n
      · obtain ⟨cs', g1, g2⟩ := hx i (by omega)
        obtain ⟨_, hlen, hcell⟩ := World.cells?_some g1
        have e2 : Rows.uptoBulk (D i) ≤ 1048576 := bulk_elem (l := (List.range n).map D) (r := (List.range (m - n)).map fun j => D (n + j)) (List.mem_map.2 ⟨i, List.mem_range.2 hi, rfl⟩) (by rw [← hd1]; exact hk)
        obtain ⟨o, x, cc, oko, rfl, r⟩ := ope_cells g2 e2
        have rg : W.rangeAt b (off + i * 15) (oeL o x cc) := fun j u hj => by
          have hj7 : j < 15 := by
            have := (List.getElem?_eq_some_iff.1 hj).1
            have h12 := oko.2.2.1
            simp only [oeL, List.length_cons, bkL_len, h12] at this
            omega
          have := hcell j hj7
          rw [addr_lit, addr_lit] at this
          rw [this]; exact hj
        exact ⟨o, oko, fun _ => ⟨x, cc, World.block_lt_of_cell? W _ (rg 0 _ rfl), rg, r⟩⟩
      · exact ⟨⟨0, 0, [], zeroL⟩, ⟨(fun e he => by cases he), by simp, zero_ok⟩, fun h => absurd h hi⟩
    let f := fun i => Classical.choose (key2 i)
    have hf1 : ∀ i, OpEOk (f i) := fun i => (Classical.choose_spec (key2 i)).1
    have hf2 := fun i => (Classical.choose_spec (key2 i)).2
    refine ⟨(List.range n).map f, by simp, ⟨some ⟨b, off, none⟩, c, by simp, fun i o hi => ?_⟩, fun x hx => ?_, hn⟩
    · have hin : i < n := by
        have := (List.getElem?_eq_some_iff.1 hi).1
        simpa using this
      have e : o = f i := by
        rw [List.getElem?_map, List.getElem?_range hin] at hi
        simpa using hi.symm
      subst e
      obtain ⟨x, cc, k1, k2⟩ := hf2 i hin
      exact ⟨b, off, x, cc, rfl, k1, k2⟩
    · obtain ⟨i, _, rfl⟩ := List.mem_map.1 hx
      exact hf1 i
end
end Go.Proofs.YtacdnigeboeleaaDoor
