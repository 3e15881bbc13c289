/-
  Ours: scripts and lists of records that came in, opened, in full.
-/
import Derived.Test.YtcmfehabcklbpaaDoorFrmRow
import Derived.Test.YtcmfehabcklbpaaDoorFrmOpen
import Derived.Test.YtcmfehabcklbpaaDoorJouLaw
import Derived.SizedLaws
namespace Go.Proofs.YtcmfehabcklbpaaDoor
open Go.ChangeShapes Go.WideShapes Go.ChangeAt Go.RowKit

section
variable {H : Type} {enc : TypeId × Value → H} {W : World}
theorem weightsAll_mem {P : Program} {e : TypeId} {l : List (DataW H)} {d : DataW H} (hd : d ∈ l) : ∀ n ∈ d.weights P e, n ∈ DataW.weightsAll P e l := by
  induction l with
  | nil => cases hd
  | cons x r ih =>
    intro n hn
    simp only [DataW.weightsAll, List.mem_append]
    rcases List.mem_cons.1 hd with rfl | h
    · exact .inl hn
    · exact .inr (ih h n hn)
theorem weights_slice_elem {P : Program} {t e : TypeId} {l r : List (DataW H)} {d : DataW H} (ht : P.underlying t = some (.slice e)) (hd : d ∈ l) (hw : ∀ n ∈ (DataW.slice l r).weights P t, n ≤ reachBytes) : ∀ n ∈ d.weights P e, n ≤ reachBytes := fun n hn =>
  hw n (by simp only [DataW.weights, ht, List.mem_cons, List.mem_append]; exact .inr (.inl (weightsAll_mem hd n hn)))
theorem weights_slice_len {P : Program} {t e : TypeId} {l r : List (DataW H)} (ht : P.underlying t = some (.slice e)) (hw : ∀ n ∈ (DataW.slice l r).weights P t, n ≤ reachBytes) : (l.length + r.length) * P.bytesOf e ≤ reachBytes :=
  hw _ (by simp only [DataW.weights, ht, List.mem_cons]; exact .inl trivial)
theorem bytes8 : Tryd.prog.bytesOf 5 = 1 := by kernel_rfl
/-- How long bytes that came in may be. -/
theorem bytes_len {d : DataW H} {len cap : Nat} (h : (d = .nil ∧ len = 0) ∨ ∃ elems spare, d = .slice elems spare ∧ elems.length = len ∧ elems.length + spare.length = cap) (hw : ∀ n ∈ d.weights Tryd.prog 22, n ≤ reachBytes) : len ≤ 140737488355328 := by
  rcases h with ⟨_, e⟩ | ⟨l, r, rfl, e1, e2⟩
  · omega
  · have := weights_slice_len Tryd.underlying22 hw
    rw [bytes8] at this
    unfold reachBytes at this
    omega

set_option maxRecDepth 100000 in
theorem opj_cells {fuel : Nat} {l : List Value} {x : DataW H × List MemPlace} (hf : DataW.trod enc Tryd.prog W 0 (fun _ => true) true fuel 38 l = some x) :
    ∃ (o : OpJ) (a : Option Addr) (c : Nat), l = ojL o a c ∧ RdB W (.slice a o.data.length c) o.data ∧ (∀ b ∈ o.data, b < 256) ∧ ((∀ n ∈ x.1.weights Tryd.prog 38, n ≤ reachBytes) → o.data.length ≤ 140737488355328) := by
  obtain ⟨ys, kk, hkk, hdd, hlen, hyl, hfl⟩ := DataW.trod_struct Tryd.underlying38 hf
  have cI : Tryd.prog.cellsOf 3 = 1 := by kernel_rfl
  have cS : Tryd.prog.cellsOf 22 = 1 := by kernel_rfl
  have cT : Tryd.prog.cellsOf 38 = 5 := by kernel_rfl
  rw [cT] at hlen
  match ys, hyl, l, hlen with
  | [y0, y1, y2, y3, y4], _, [v0, v1, v2, v3, v4], _ =>
    have t0 := hfl 0 _ rfl
    have t1 := hfl 1 _ rfl
    have t2 := hfl 2 _ rfl
    have t3 := hfl 3 _ rfl
    have t4 := hfl 4 _ rfl
    simp [cI, cS] at t0 t1 t2 t3 t4
    obtain ⟨n0, e0, _, _⟩ := DataW.trod_int Tryd.underlying3 t0
    obtain ⟨n1, e1, _, _⟩ := DataW.trod_int Tryd.underlying3 t1
    obtain ⟨n2, e2, _, _⟩ := DataW.trod_int Tryd.underlying3 t2
    obtain ⟨n3, e3, _, _⟩ := DataW.trod_int Tryd.underlying3 t3
    obtain ⟨a, nn, cc, rfl⟩ := slice_cells Tryd.underlying22 Tryd.underlying5 (by kernel_rfl) t4
    obtain ⟨bs, l1, r1, b1, d1⟩ := bytes_open (a := a) (len := nn) (cap := cc) (d := y4.1) (ps := y4.2) Tryd.underlying22 Tryd.underlying5 (by kernel_rfl) ⟨_, t4⟩
    simp at e0 e1 e2 e3
    subst e0 e1 e2 e3 l1
    have ed : x.1 = DataW.agg ([y0, y1, y2, y3, y4].map (·.1)) := congrArg Prod.fst hdd
    refine ⟨⟨n0, n1, n2, n3, bs⟩, a, cc, rfl, r1, b1, fun hw => ?_⟩
    rw [ed] at hw
    refine bytes_len d1 (fun n hn => hw n ?_)
    simp only [DataW.weights, Tryd.underlying38]
    exact DataW.weights_mem_each (j := 4) (t := 22) (d := y4.1) rfl rfl n hn

set_option maxRecDepth 100000 in
theorem scriptJ_open {s : Option Addr} {n c : Nat} {d : DataW H} {ps : List MemPlace} (h : DataW.Trod enc Tryd.prog W 0 (fun _ => true) true 23 (.slice s n c) d ps) :
    ∃ os : List OpJ, os.length = n ∧ RdJ W (.slice s n c) os ∧ (∀ o ∈ os, ∀ b ∈ o.data, b < 256) ∧ ((∀ n ∈ d.weights Tryd.prog 23, n ≤ reachBytes) → os.length ≤ 140737488355328 ∧ ∀ o ∈ os, o.data.length ≤ 140737488355328) := by
  obtain ⟨fuel, hf⟩ := h
  rcases Go.Deep.open_slice Tryd.underlying23 hf with ⟨hcs, _⟩ | ⟨a, len, cap, m, q, D, Pl, hcs, _, hl, hm, hmm, hd, hx⟩
  · simp [Value.cells] at hcs
    obtain ⟨rfl, rfl, rfl⟩ := hcs
    exact ⟨[], rfl, ⟨none, 0, rfl, fun i o hi => by simp at hi⟩, (fun o ho => nomatch ho), fun _ => ⟨by simp, fun o ho => nomatch ho⟩⟩
  · simp [Value.cells] at hcs
    obtain ⟨rfl, rfl, rfl⟩ := hcs
    have ce : Tryd.prog.cellsOf 38 = 5 := by kernel_rfl
    rw [ce] at hx
    simp only [if_true] at hmm
    have hd1 : d = .slice ((List.range n).map D) ((List.range (m - n)).map fun j => D (n + j)) := (Prod.mk.inj hd).1
    obtain ⟨b, off, spot⟩ := a
    by_cases h0 : n = 0
    · subst h0
      exact ⟨[], rfl, ⟨_, c, rfl, fun i o hi => by simp at hi⟩, (fun o ho => nomatch ho), fun _ => ⟨by simp, fun o ho => nomatch ho⟩⟩
    have hspot : spot = none := by
      obtain ⟨cs', g1, _⟩ := hx 0 (by omega)
      obtain ⟨_, hlen, hcell⟩ := World.cells?_some g1
      have := hcell 0 (by omega)
      rw [List.getElem?_eq_getElem (by omega)] at this
      simpa [Addr.add] using World.cell?_spot this
    subst hspot
    have key : ∀ i, ∃ o : OpJ, (∀ b ∈ o.data, b < 256) ∧ ((∀ n ∈ d.weights Tryd.prog 23, n ≤ reachBytes) → o.data.length ≤ 140737488355328) ∧ (i < n → ∃ (x : Option Addr) (cc : Nat), b < W.heap.size ∧ W.rangeAt b (off + i * 5) (ojL o x cc) ∧ RdB W (.slice x o.data.length cc) o.data) := fun i => by
      by_cases hi : i < n
      · obtain ⟨cs', g1, g2⟩ := hx i (by omega)
        obtain ⟨_, hlen, hcell⟩ := World.cells?_some g1
        obtain ⟨o, x, cc, rfl, r, ob, ol⟩ := opj_cells g2
        have rg : W.rangeAt b (off + i * 5) (ojL o x cc) := fun j u hj => by
          have hj5 : j < 5 := (List.getElem?_eq_some_iff.1 hj).1
          have := hcell j hj5
          rw [Addr.add_lit, Addr.add_lit] at this
          rw [this]; exact hj
        refine ⟨o, ob, fun hw => ol (weights_slice_elem (l := (List.range n).map D) (r := (List.range (m - n)).map fun j => D (n + j)) Tryd.underlying23 (List.mem_map.2 ⟨i, List.mem_range.2 hi, rfl⟩) (by rw [← hd1]; exact hw)), fun _ => ⟨x, cc, ?_, rg, r⟩⟩
        have c0 := rg 0 _ rfl
        exact World.block_lt_of_cell? W _ c0
      · exact ⟨⟨0, 0, 0, 0, []⟩, (fun b hb => nomatch hb), fun _ => by simp, fun h => absurd h hi⟩
    let f := fun i => Classical.choose (key i)
    have hf1 : ∀ i, ∀ b ∈ (f i).data, b < 256 := fun i => (Classical.choose_spec (key i)).1
    have hf3 : ∀ i, (∀ n ∈ d.weights Tryd.prog 23, n ≤ reachBytes) → (f i).data.length ≤ 140737488355328 := fun i => (Classical.choose_spec (key i)).2.1
    have hf2 := fun i => (Classical.choose_spec (key i)).2.2
    refine ⟨(List.range n).map f, by simp, ⟨some ⟨b, off, none⟩, c, by simp, fun i o hi => ?_⟩, fun o ho => ?_, fun hw => ⟨?_, fun o ho => ?_⟩⟩
    · have hin : i < n := by
        have := (List.getElem?_eq_some_iff.1 hi).1
        simpa using this
      have e : o = f i := by
        rw [List.getElem?_map, List.getElem?_range hin] at hi
        simpa using hi.symm
      subst e
      obtain ⟨x, cc, k1, k2⟩ := hf2 i hin
      exact ⟨b, off, x, cc, rfl, k1, k2⟩
    · obtain ⟨i, _, rfl⟩ := List.mem_map.1 ho
      exact hf1 i
    · have h1 := weights_slice_len Tryd.underlying23 (by rw [← hd1]; exact hw)
      have e8 : Tryd.prog.bytesOf 38 = 56 := by kernel_rfl
      rw [e8] at h1
      unfold reachBytes at h1
      simp at h1 ⊢
      omega
    · obtain ⟨i, _, rfl⟩ := List.mem_map.1 ho
      exact hf3 i hw

set_option maxRecDepth 100000 in
theorem rowsJ_open {s : Option Addr} {n c : Nat} {d : DataW H} {ps : List MemPlace} (h : DataW.Trod enc Tryd.prog W 0 (fun _ => true) true 32 (.slice s n c) d ps) :
    ∃ cs : List (List Nat), cs.length = n ∧ RdR W (.slice s n c) cs ∧ (∀ r ∈ cs, ∀ b ∈ r, b < 256) ∧ ((∀ n ∈ d.weights Tryd.prog 32, n ≤ reachBytes) → cs.length ≤ 140737488355328 ∧ ∀ r ∈ cs, r.length ≤ 140737488355328) := by
  obtain ⟨fuel, hf⟩ := h
  rcases Go.Deep.open_slice Tryd.underlying32 hf with ⟨hcs, _⟩ | ⟨a, len, cap, m, q, D, Pl, hcs, _, hl, hm, hmm, hd, hx⟩
  · simp [Value.cells] at hcs
    obtain ⟨rfl, rfl, rfl⟩ := hcs
    exact ⟨[], rfl, ⟨none, 0, rfl, by simp, fun i hi => by simp at hi⟩, (fun o ho => nomatch ho), fun _ => ⟨by simp, fun o ho => nomatch ho⟩⟩
  · simp [Value.cells] at hcs
    obtain ⟨rfl, rfl, rfl⟩ := hcs
    have ce : Tryd.prog.cellsOf 22 = 1 := by kernel_rfl
    rw [ce] at hx
    simp only [if_true] at hmm
    have hd1 : d = .slice ((List.range n).map D) ((List.range (m - n)).map fun j => D (n + j)) := (Prod.mk.inj hd).1
    obtain ⟨b, off, spot⟩ := a
    by_cases h0 : n = 0
    · subst h0
      exact ⟨[], rfl, ⟨_, c, rfl, by simp, fun i hi => by simp at hi⟩, (fun o ho => nomatch ho), fun _ => ⟨by simp, fun o ho => nomatch ho⟩⟩
    have hspot : spot = none := by
      obtain ⟨cs', g1, _⟩ := hx 0 (by omega)
      obtain ⟨_, hlen, hcell⟩ := World.cells?_some g1
      have := hcell 0 (by omega)
      rw [List.getElem?_eq_getElem (by omega)] at this
      simpa [Addr.add] using World.cell?_spot this
    subst hspot
    have key : ∀ i, ∃ (bs : List Nat), (∀ x ∈ bs, x < 256) ∧ ((∀ n ∈ d.weights Tryd.prog 32, n ≤ reachBytes) → bs.length ≤ 140737488355328) ∧ (i < n → ∃ (a : Option Addr) (cc : Nat), b < W.heap.size ∧ W.cell? ⟨b, off + i, none⟩ = some (.slice a bs.length cc) ∧ RdB W (.slice a bs.length cc) bs) := fun i => by
      by_cases hi : i < n
      · obtain ⟨cs', g1, g2⟩ := hx i (by omega)
        obtain ⟨_, hlen, hcell⟩ := World.cells?_some g1
        match cs', hlen with
        | [u], _ =>
          have c0 := hcell 0 (by omega)
          simp only [Nat.mul_one] at c0
          rw [Addr.add_lit, Addr.add_lit] at c0
          simp at c0
          obtain ⟨a, nn, cc, rfl⟩ := slice_cells Tryd.underlying22 Tryd.underlying5 (by kernel_rfl) g2
          obtain ⟨bs, l1, r1, b1, d1⟩ := bytes_open (a := a) (len := nn) (cap := cc) (d := D i) (ps := Pl i) Tryd.underlying22 Tryd.underlying5 (by kernel_rfl) ⟨_, g2⟩
          subst l1
          exact ⟨bs, b1, fun hw => bytes_len d1 (weights_slice_elem (l := (List.range n).map D) (r := (List.range (m - n)).map fun j => D (n + j)) Tryd.underlying32 (List.mem_map.2 ⟨i, List.mem_range.2 hi, rfl⟩) (by rw [← hd1]; exact hw)), fun _ => ⟨a, cc, World.block_lt_of_cell? W _ c0, c0, r1⟩⟩
      · exact ⟨[], (fun x hx => nomatch hx), fun _ => by simp, fun h => absurd h hi⟩
    let f := fun i => Classical.choose (key i)
    have hf1 : ∀ i, ∀ x ∈ f i, x < 256 := fun i => (Classical.choose_spec (key i)).1
    have hf3 : ∀ i, (∀ n ∈ d.weights Tryd.prog 32, n ≤ reachBytes) → (f i).length ≤ 140737488355328 := fun i => (Classical.choose_spec (key i)).2.1
    have hf2 : ∀ i, i < n → ∃ (a : Option Addr) (cc : Nat), b < W.heap.size ∧ W.cell? ⟨b, off + i, none⟩ = some (.slice a (f i).length cc) ∧ RdB W (.slice a (f i).length cc) (f i) := fun i => (Classical.choose_spec (key i)).2.2
    refine ⟨(List.range n).map f, by simp, ⟨some ⟨b, off, none⟩, c, by simp, by simp; omega, fun i hi => ?_⟩, fun r hr => ?_, fun hw => ⟨?_, fun r hr => ?_⟩⟩
    · rw [List.length_map, List.length_range] at hi
      obtain ⟨a, cc, k1, k2, k3⟩ := hf2 i hi
      have e : ((List.range n).map f).getD i [] = f i := by simp [List.getD_eq_getElem?_getD, List.getElem?_map, List.getElem?_range hi]
      rw [e]
      exact ⟨b, off, a, cc, rfl, k1, k2, k3⟩
    · obtain ⟨i, _, rfl⟩ := List.mem_map.1 hr
      exact hf1 i
    · have h1 := weights_slice_len Tryd.underlying32 (by rw [← hd1]; exact hw)
      have e8 : Tryd.prog.bytesOf 22 = 24 := by kernel_rfl
      rw [e8] at h1
      unfold reachBytes at h1
      simp at h1 ⊢
      omega
    · obtain ⟨i, _, rfl⟩ := List.mem_map.1 hr
      exact hf3 i hw
end
end Go.Proofs.YtcmfehabcklbpaaDoor
