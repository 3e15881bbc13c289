/-
  Ours: a script of operations is no longer than a seventh of its bulk.
-/
import Derived.Test.YtcnhcdlbippjoaaNwOp
import Derived.Test.YtcnhcdlbippjoaaWirRow
import Derived.ChangeArms
import Derived.Deep.Slices
namespace Go.Proofs.Ytcnhcdlbippjoaa
open Go.ChangeShapes Go.WideShapes Go.ChangeAt Go.RowKit NwM

section
variable {H : Type} {enc : TypeId × Value → H} {W : World}
theorem bulk_elem {d : DataW H} {l r : List (DataW H)} (h : d ∈ l) (hk : Rows.uptoBulk (DataW.slice l r) ≤ 1048576) : Rows.uptoBulk d ≤ 1048576 := by
  have := bulk_mem h
  simp only [Rows.uptoBulk] at hk
  omega
theorem slice_cells {t e : TypeId} {k : IntKind} {fuel : Nat} {u : Value} {x : DataW H × List MemPlace} (ht : Try.prog.underlying t = some (.slice e)) (he : Try.prog.underlying e = some (.int k)) (hc : Try.prog.cellsOf e = 1)
    (hf : DataW.trod enc Try.prog W 0 (fun _ => true) true fuel t [u] = some x) : ∃ a n c, u = .slice a n c := by
  rcases open_ints ht he hc hf with ⟨hcs, _⟩ | ⟨x, l, c, zs, hcs, _⟩
  · simp at hcs; exact ⟨_, _, _, hcs⟩
  · simp at hcs; exact ⟨_, _, _, hcs⟩

theorem bulk_part {d : DataW H} {l : List (DataW H)} (h : d ∈ l) (hk : Rows.uptoBulk (DataW.agg l) ≤ 1048576) : Rows.uptoBulk d ≤ 1048576 := by
  have := bulk_mem h
  simp only [Rows.uptoBulk.eq_6] at hk
  omega

set_option maxRecDepth 100000 in
theorem opn_cells {fuel : Nat} {l : List Value} {x : DataW H × List MemPlace} (hf : DataW.trod enc Try.prog W 0 (fun _ => true) true fuel 45 l = some x) (hk : Rows.uptoBulk x.1 ≤ 1048576) :
    ∃ o : OpN, l = opL o ∧ RdB W (.slice o.xa o.xn o.xc) o.bs ∧ o.bs.length ≤ 1048576 := by
  have HK : Hid (Rows.uptoBulk x.1 ≤ 1048576) := hk
  clear hk
  obtain ⟨ys, kk, hkk, hdd, hlen, hyl, hfl⟩ := DataW.trod_struct Try.underlying45 hf
  have cI : Try.prog.cellsOf 3 = 1 := by kernel_rfl
  have cB : Try.prog.cellsOf 4 = 1 := by kernel_rfl
  have cZ : Try.prog.cellsOf 9 = 1 := by kernel_rfl
  have cS : Try.prog.cellsOf 31 = 1 := by kernel_rfl
  have cT : Try.prog.cellsOf 45 = 6 := by kernel_rfl
  rw [cT] at hlen
  match ys, hyl, l, hlen with
  | [y0, y1, y2, y3, y4, y5], _, [v0, v1, v2, v3, v4, v5], _ =>
    have t0 := hfl 0 _ rfl
    have t1 := hfl 1 _ rfl
    have t2 := hfl 2 _ rfl
    have t3 := hfl 3 _ rfl
    have t4 := hfl 4 _ rfl
    have t5 := hfl 5 _ rfl
    simp [cI, cB, cS, cZ] at t0 t1 t2 t3 t4 t5
    obtain ⟨n0, e0, _, _⟩ := DataW.trod_int Try.underlying3 t0
    obtain ⟨n1, e1, _⟩ := DataW.trod_bool Try.underlying4 t1
    obtain ⟨n2, e2, _, _⟩ := DataW.trod_string Try.underlying9 t2
    obtain ⟨n3, e3, _, _⟩ := DataW.trod_int Try.underlying3 t3
    obtain ⟨n4, e4, _⟩ := DataW.trod_bool Try.underlying4 t4
    obtain ⟨a, nn, cc, rfl⟩ := slice_cells Try.underlying31 Try.underlying5 (by kernel_rfl) t5
    obtain ⟨bs, l1, r1, _, d1⟩ := bytes_open (a := a) (len := nn) (cap := cc) (d := y5.1) (ps := y5.2) Try.underlying31 Try.underlying5 (by kernel_rfl) ⟨_, t5⟩
    simp at e0 e1 e2 e3 e4
    subst e0 e1 e2 e3 e4
    have ed : x.1 = DataW.agg ([y0, y1, y2, y3, y4, y5].map (·.1)) := congrArg Prod.fst hdd
    have hb := bulk_slice d1
    have hb2 : Rows.uptoBulk y5.1 ≤ 1048576 := bulk_part (l := [y0, y1, y2, y3, y4, y5].map (·.1)) (by simp) (by rw [← ed]; exact HK.out)
    exact ⟨⟨n0, n1, n2, n3, n4, a, nn, cc, bs⟩, rfl, r1, by show bs.length ≤ _; omega⟩

set_option maxRecDepth 100000 in
theorem script_open {s : Option Addr} {n c : Nat} {d : DataW H} {ps : List MemPlace} (h : DataW.Trod enc Try.prog W 0 (fun _ => true) true 22 (.slice s n c) d ps) (hk : Rows.uptoBulk d ≤ 1048576) :
    ∃ os : List OpN, os.length = n ∧ RdO W (.slice s n c) os ∧ (∀ o ∈ os, o.bs.length ≤ 1048576) ∧ n ≤ 1048576 := by
  obtain ⟨fuel, hf⟩ := h
  rcases Go.Deep.open_slice Try.underlying22 hf with ⟨hcs, _⟩ | ⟨a, len, cap, m, q, D, Pl, hcs, _, hl, hm, hmm, hd, hx⟩
  · simp [Value.cells] at hcs
    obtain ⟨rfl, rfl, rfl⟩ := hcs
    exact ⟨[], rfl, ⟨none, 0, rfl, fun i o hi => by simp at hi⟩, (fun c hc => by cases hc), by omega⟩
  · simp [Value.cells] at hcs
    obtain ⟨rfl, rfl, rfl⟩ := hcs
    have ce : Try.prog.cellsOf 45 = 6 := by kernel_rfl
    rw [ce] at hx
    simp only [if_true] at hmm
    have hd1 : d = .slice ((List.range n).map D) ((List.range (m - n)).map fun j => D (n + j)) := (Prod.mk.inj hd).1
    have hn : n ≤ 1048576 := by
      have h1 := bulk_len ((List.range n).map D)
      rw [List.length_map, List.length_range] at h1
      rw [hd1] at hk
      simp only [Rows.uptoBulk] at hk
      omega
    obtain ⟨b, off, spot⟩ := a
    by_cases h0 : n = 0
    · subst h0
      exact ⟨[], rfl, ⟨_, c, rfl, fun i o hi => by simp at hi⟩, (fun c hc => by cases hc), by omega⟩
    have hspot : spot = none := by
      obtain ⟨cs', g1, _⟩ := hx 0 (by omega)
      obtain ⟨_, hlen, hcell⟩ := World.cells?_some g1
      have := hcell 0 (by omega)
      rw [List.getElem?_eq_getElem (by omega)] at this
      simpa [Addr.add] using World.cell?_spot this
    subst hspot
    have key2 : ∀ i, ∃ o : OpN, o.bs.length ≤ 1048576 ∧ (i < n → b < W.heap.size ∧ (∀ j u, (opL o)[j]? = some u → W.cell? ⟨b, off + i * 6 + j, none⟩ = some u) ∧ RdB W (.slice o.xa o.xn o.xc) o.bs) := fun i => by
      by_cases hi : i < n
      · obtain ⟨cs', g1, g2⟩ := hx i (by omega)
        obtain ⟨_, hlen, hcell⟩ := World.cells?_some g1
        have e2 : Rows.uptoBulk (D i) ≤ 1048576 := bulk_elem (l := (List.range n).map D) (r := (List.range (m - n)).map fun j => D (n + j)) (List.mem_map.2 ⟨i, List.mem_range.2 hi, rfl⟩) (by rw [← hd1]; exact hk)
        obtain ⟨o, rfl, r, ol⟩ := opn_cells g2 e2
        have cj : ∀ j u, (opL o)[j]? = some u → W.cell? ⟨b, off + i * 6 + j, none⟩ = some u := fun j u hj => by
          have hj6 : j < 6 := (List.getElem?_eq_some_iff.1 hj).1
          have := hcell j hj6
          rw [Addr.add_lit, Addr.add_lit] at this
          rw [this]; exact hj
        exact ⟨o, ol, fun _ => ⟨World.block_lt_of_cell? W _ (cj 0 _ rfl), cj, r⟩⟩
      · exact ⟨⟨0, false, .empty, 0, false, none, 0, 0, []⟩, by simp, fun h => absurd h hi⟩
    let f := fun i => Classical.choose (key2 i)
    have hf1 : ∀ i, (f i).bs.length ≤ 1048576 := fun i => (Classical.choose_spec (key2 i)).1
    have hf2 := fun i => (Classical.choose_spec (key2 i)).2
    refine ⟨(List.range n).map f, by simp, ⟨some ⟨b, off, none⟩, c, by simp, fun i o hi => ?_⟩, fun x hx => ?_, hn⟩
    · have hin : i < n := by
        have := (List.getElem?_eq_some_iff.1 hi).1
        simpa using this
      have e : o = f i := by
        rw [List.getElem?_map, List.getElem?_range hin] at hi
        simpa using hi.symm
      subst e
      obtain ⟨k1, k2, k3⟩ := hf2 i hin
      exact ⟨b, off, rfl, k1, k2, k3⟩
    · obtain ⟨i, _, rfl⟩ := List.mem_map.1 hx
      exact hf1 i
end
end Go.Proofs.Ytcnhcdlbippjoaa

namespace Go.Proofs.Ytcnhcdlbippjoaa
open Go.ChangeShapes Go.WideShapes Go.ChangeAt Go.RowKit NwM
section
variable {H : Type} {enc : TypeId × Value → H} {W : World}
set_option maxRecDepth 100000 in
theorem opn_seven {fuel : Nat} {l : List Value} {x : DataW H × List MemPlace} (hf : DataW.trod enc Try.prog W 0 (fun _ => true) true fuel 45 l = some x) : 7 ≤ Rows.uptoBulk x.1 := by
  obtain ⟨ys, kk, hkk, hdd, hlen, hyl, hfl⟩ := DataW.trod_struct Try.underlying45 hf
  have ed : x.1 = DataW.agg (ys.map (·.1)) := congrArg Prod.fst hdd
  have h6 : ys.length = 6 := hyl
  have h1 := bulk_len (ys.map (·.1))
  rw [List.length_map] at h1
  rw [ed]
  simp only [Rows.uptoBulk.eq_6]
  omega
theorem seven_all : ∀ l : List (DataW H), (∀ d ∈ l, 7 ≤ Rows.uptoBulk d) → 7 * l.length ≤ Rows.uptoBulkAll l
  | [], _ => Nat.zero_le _
  | d :: l, h => by
    have h1 := h d (List.mem_cons_self ..)
    have h2 := seven_all l (fun x hx => h x (List.mem_cons_of_mem _ hx))
    simp only [Rows.uptoBulkAll, List.length_cons]
    omega
set_option maxRecDepth 100000 in
theorem script_seven {s : Option Addr} {n c : Nat} {d : DataW H} {ps : List MemPlace} (h : DataW.Trod enc Try.prog W 0 (fun _ => true) true 22 (.slice s n c) d ps) (hk : Rows.uptoBulk d ≤ 1048576) : 7 * n ≤ 1048576 := by
  obtain ⟨fuel, hf⟩ := h
  rcases Go.Deep.open_slice Try.underlying22 hf with ⟨hcs, _⟩ | ⟨a, len, cap, m, q, D, Pl, hcs, _, hl, hm, hmm, hd, hx⟩
  · simp [Value.cells] at hcs
    obtain ⟨rfl, rfl, rfl⟩ := hcs
    omega
  · simp [Value.cells] at hcs
    obtain ⟨rfl, rfl, rfl⟩ := hcs
    simp only [if_true] at hmm
    have hd1 : d = .slice ((List.range n).map D) ((List.range (m - n)).map fun j => D (n + j)) := (Prod.mk.inj hd).1
    have h1 := seven_all ((List.range n).map D) (fun x hx' => by
      obtain ⟨i, hi, rfl⟩ := List.mem_map.1 hx'
      obtain ⟨cs', g1, g2⟩ := hx i (by have := List.mem_range.1 hi; omega)
      exact opn_seven g2)
    rw [List.length_map, List.length_range] at h1
    rw [hd1] at hk
    simp only [Rows.uptoBulk] at hk
    omega
end
end Go.Proofs.Ytcnhcdlbippjoaa
