/-
  Ours: an argument that is a script of questions, opened.
-/
import Derived.Test.YtekejcpgoijoaabAgOpen
import Derived.Test.YtekejcpgoijoaabAgMiss
namespace Go.Proofs.Ytekejcpgoijoaab
open Go.ChangeShapes Go.WideShapes Go.ChangeAt Go.RowKit LedM AgM

structure OpA where
  kind : Int
  other : Bool
  A : Int
  R : Int
  today : Int
  N : Int
  rows : List Int
def OpOk (o : OpA) : Prop := i64 o.kind ∧ i64 o.A ∧ i64 o.R ∧ i64 o.today ∧ i64 o.N
def opL (o : OpA) (x : Option Addr) (c : Nat) : List Value := [.int .i64 o.kind, .bool o.other, .int .i64 o.A, .int .i64 o.R, .int .i64 o.today, .int .i64 o.N, .slice x o.rows.length c]
/-- The slice value v reads as the script os. -/
def RdA (w : World) (v : Value) (os : List OpA) : Prop :=
  ∃ ao cap, v = .slice ao os.length cap ∧ ∀ i o, os[i]? = some o → ∃ g off x c, ao = some ⟨g, off, none⟩ ∧ g < w.heap.size ∧ w.rangeAt g (off + i * 7) (opL o x c) ∧ Rd w (.slice x o.rows.length c) (o.rows.map (Value.int .i64))

section
variable {H : Type} {enc : TypeId × Value → H} {W : World}
theorem bulk_elem {d : DataW H} {l r : List (DataW H)} (h : d ∈ l) (hk : Rows.uptoBulk (DataW.slice l r) ≤ 1048576) : Rows.uptoBulk d ≤ 1048576 := by
  have := bulk_mem h
  simp only [Rows.uptoBulk] at hk
  omega
theorem slice_cells {t e : TypeId} {k : IntKind} {fuel : Nat} {v : Value} {x : DataW H × List MemPlace} (ht : Try.prog.underlying t = some (.slice e)) (he : Try.prog.underlying e = some (.int k)) (hc : Try.prog.cellsOf e = 1)
    (h : DataW.trod enc Try.prog W 0 (fun _ => true) true fuel t [v] = some x) : ∃ a n c, v = .slice a n c := by
  rcases open_ints ht he hc h with ⟨hcs, _⟩ | ⟨x, l, c, zs, hcs, _⟩
  · exact ⟨none, 0, 0, by simpa using hcs⟩
  · exact ⟨some x, l, c, by simpa using hcs⟩
set_option maxRecDepth 100000 in
theorem opa_cells {fuel : Nat} {l : List Value} {x : DataW H × List MemPlace} (hf : DataW.trod enc Try.prog W 0 (fun _ => true) true fuel 43 l = some x) :
    ∃ (o : OpA) (a : Option Addr) (c : Nat), OpOk o ∧ l = opL o a c ∧ Rd W (.slice a o.rows.length c) (o.rows.map (Value.int .i64)) := by
  obtain ⟨ys, kk, hkk, hdd, hlen, hyl, hfl⟩ := DataW.trod_struct Try.underlying43 hf
  have cI : Try.prog.cellsOf 3 = 1 := by kernel_rfl
  have cB : Try.prog.cellsOf 4 = 1 := by kernel_rfl
  have cJ : Try.prog.cellsOf 2 = 1 := by kernel_rfl
  have cS : Try.prog.cellsOf 30 = 1 := by kernel_rfl
  have cP : Try.prog.cellsOf 24 = 2 := by kernel_rfl
  have cT : Try.prog.cellsOf 43 = 7 := by kernel_rfl
  rw [cT] at hlen
  match ys, hyl, l, hlen with
  | [y0, y1, y2, y3, y4, y5], _, [v0, v1, v2, v3, v4, v5, v6], _ =>
    have t0 := hfl 0 _ rfl
    have t1 := hfl 1 _ rfl
    have t2 := hfl 2 _ rfl
    have t3 := hfl 3 _ rfl
    have t4 := hfl 4 _ rfl
    have t5 := hfl 5 _ rfl
    simp [cI, cB, cS, cP] at t0 t1 t2 t3 t4 t5
    obtain ⟨n0, e0, _, f0⟩ := DataW.trod_int Try.underlying3 t0
    obtain ⟨n1, e1, _⟩ := DataW.trod_bool Try.underlying4 t1
    obtain ⟨zs, kz, hkz, hdz, hlz, hyz, hfz⟩ := DataW.trod_struct Try.underlying24 t2
    match zs, hyz with
    | [z0, z1], _ =>
      have s0 := hfz 0 _ rfl
      have s1 := hfz 1 _ rfl
      simp [cJ] at s0 s1
      obtain ⟨m0, g0, _, k0⟩ := DataW.trod_int Try.underlying2 s0
      obtain ⟨m1, g1, _, k1⟩ := DataW.trod_int Try.underlying2 s1
      obtain ⟨n3, e3, _, f3⟩ := DataW.trod_int Try.underlying3 t3
      obtain ⟨n4, e4, _, f4⟩ := DataW.trod_int Try.underlying3 t4
      obtain ⟨a, nn, cc, rfl⟩ := slice_cells Try.underlying30 Try.underlying3 (by kernel_rfl) t5
      obtain ⟨bs, l1, r1, _, d1⟩ := ints_open (a := a) (len := nn) (cap := cc) (d := y5.1) (ps := y5.2) Try.underlying30 Try.underlying3 (by kernel_rfl) ⟨_, t5⟩
      simp at e0 e1 e3 e4 g0 g1
      subst e0 e1 e3 e4 g0 g1 l1
      exact ⟨⟨n0, n1, m0, m1, n3, n4, bs⟩, a, cc, ⟨bounds f0, bounds k0, bounds k1, bounds f3, bounds f4⟩, rfl, r1⟩

set_option maxRecDepth 100000 in
theorem script_open {s : Option Addr} {n c : Nat} {d : DataW H} {ps : List MemPlace} (h : DataW.Trod enc Try.prog W 0 (fun _ => true) true 39 (.slice s n c) d ps) (hk : Rows.uptoBulk d ≤ 1048576) :
    ∃ os : List OpA, os.length = n ∧ RdA W (.slice s n c) os ∧ (∀ o ∈ os, OpOk o) ∧ n ≤ 1048576 := by
  obtain ⟨fuel, hf⟩ := h
  rcases Go.Deep.open_slice Try.underlying39 hf with ⟨hcs, _⟩ | ⟨a, len, cap, m, q, D, Pl, hcs, _, hl, hm, hmm, hd, hx⟩
  · simp [Value.cells] at hcs
    obtain ⟨rfl, rfl, rfl⟩ := hcs
    exact ⟨[], rfl, ⟨none, 0, rfl, fun i o hi => by simp at hi⟩, (fun c hc => by cases hc), by omega⟩
  · simp [Value.cells] at hcs
    obtain ⟨rfl, rfl, rfl⟩ := hcs
    have ce : Try.prog.cellsOf 43 = 7 := by kernel_rfl
    rw [ce] at hx
    simp only [if_true] at hmm
    have hd1 : d = .slice ((List.range n).map D) ((List.range (m - n)).map fun j => D (n + j)) := (Prod.mk.inj hd).1
    have hn : n ≤ 1048576 := by
      have h1 := bulk_len ((List.range n).map D)
      rw [List.length_map, List.length_range] at h1
      rw [hd1] at hk
      simp only [Rows.uptoBulk] at hk
      omega
    obtain ⟨b, off, spot⟩ := a
    by_cases h0 : n = 0
    · subst h0
      exact ⟨[], rfl, ⟨_, c, rfl, fun i o hi => by simp at hi⟩, (fun c hc => by cases hc), by omega⟩
    have hspot : spot = none := by
      obtain ⟨cs', g1, _⟩ := hx 0 (by omega)
      obtain ⟨_, hlen, hcell⟩ := World.cells?_some g1
      have := hcell 0 (by omega)
      rw [List.getElem?_eq_getElem (by omega)] at this
      simpa [Addr.add] using World.cell?_spot this
    subst hspot
    have key2 : ∀ i, ∃ o : OpA, OpOk o ∧ (i < n → ∃ (x : Option Addr) (cc : Nat), b < W.heap.size ∧ W.rangeAt b (off + i * 7) (opL o x cc) ∧ Rd W (.slice x o.rows.length cc) (o.rows.map (Value.int .i64))) := fun i => by
      by_cases hi : i < n
      · obtain ⟨cs', g1, g2⟩ := hx i (by omega)
        obtain ⟨_, hlen, hcell⟩ := World.cells?_some g1
        obtain ⟨o, x, cc, oko, rfl, r⟩ := opa_cells g2
        have rg : W.rangeAt b (off + i * 7) (opL o x cc) := fun j u hj => by
          have hj7 : j < 7 := (List.getElem?_eq_some_iff.1 hj).1
          have := hcell j hj7
          rw [addr_lit, addr_lit] at this
          rw [this]; exact hj
        exact ⟨o, oko, fun _ => ⟨x, cc, World.block_lt_of_cell? W _ (rg 0 _ rfl), rg, r⟩⟩
      · exact ⟨⟨0, false, 0, 0, 0, 0, []⟩, ⟨⟨by decide, by decide⟩, ⟨by decide, by decide⟩, ⟨by decide, by decide⟩, ⟨by decide, by decide⟩, ⟨by decide, by decide⟩⟩, fun h => absurd h hi⟩
    let f := fun i => Classical.choose (key2 i)
    have hf1 : ∀ i, OpOk (f i) := fun i => (Classical.choose_spec (key2 i)).1
    have hf2 := fun i => (Classical.choose_spec (key2 i)).2
    refine ⟨(List.range n).map f, by simp, ⟨some ⟨b, off, none⟩, c, by simp, fun i o hi => ?_⟩, fun x hx => ?_, hn⟩
    · have hin : i < n := by
        have := (List.getElem?_eq_some_iff.1 hi).1
        simpa using this
      have e : o = f i := by
        rw [List.getElem?_map, List.getElem?_range hin] at hi
        simpa using hi.symm
      subst e
      obtain ⟨x, cc, k1, k2⟩ := hf2 i hin
      exact ⟨b, off, x, cc, rfl, k1, k2⟩
    · obtain ⟨i, _, rfl⟩ := List.mem_map.1 hx
      exact hf1 i
end
end Go.Proofs.Ytekejcpgoijoaab
