/-
  Ours: an argument that is a script of operations, opened.
-/
import Derived.Test.YtfdehlfhnlgcjaaDoorWirRow
import Derived.Test.YtfdehlfhnlgcjaaDoorTqOp
import Derived.ProofKit
import Derived.ChangeArms
import Derived.OpenShut
import Derived.Deep.Slices
namespace Go.Proofs.YtfdehlfhnlgcjaaDoor
open Go.ChangeShapes Go.WideShapes Go.ChangeAt Go.RowKit TqM

section
variable {H : Type} {enc : TypeId × Value → H} {W : World}
theorem addr_lit (b o i : Nat) : (⟨b, o, none⟩ : Addr).add i = ⟨b, o + i, none⟩ := by unfold Addr.add; split <;> simp_all
set_option maxRecDepth 100000 in
theorem opt_cells {fuel : Nat} {l : List Value} {x : DataW H × List MemPlace} (hf : DataW.trod enc Tryd.prog W 0 (fun _ => true) true fuel 26 l = some x) :
    ∃ o : OpT, LedM.i64 o.n ∧ l = opT o := by
  obtain ⟨ys, kk, hkk, hdd, hlen, hyl, hfl⟩ := DataW.trod_struct Tryd.underlying26 hf
  have cI : Tryd.prog.cellsOf 3 = 1 := by kernel_rfl
  have cB : Tryd.prog.cellsOf 4 = 1 := by kernel_rfl
  have cP : Tryd.prog.cellsOf 24 = 3 := by kernel_rfl
  have cT : Tryd.prog.cellsOf 26 = 6 := by kernel_rfl
  rw [cT] at hlen
  match ys, hyl, l, hlen with
  | [y0, y1, y2, y3], _, [v0, v1, v2, v3, v4, v5], _ =>
    have t0 := hfl 0 _ rfl
    have t1 := hfl 1 _ rfl
    have t2 := hfl 2 _ rfl
    have t3 := hfl 3 _ rfl
    simp [cI, cB, cP] at t0 t1 t2 t3
    obtain ⟨n0, e0, _, f0⟩ := DataW.trod_int Tryd.underlying3 t0
    obtain ⟨n1, e1, _⟩ := DataW.trod_bool Tryd.underlying4 t1
    obtain ⟨zs, kz, hkz, hdz, hlz, hyz, hfz⟩ := DataW.trod_struct Tryd.underlying24 t2
    match zs, hyz with
    | [z0, z1, z2], _ =>
      have s0 := hfz 0 _ rfl
      have s1 := hfz 1 _ rfl
      have s2 := hfz 2 _ rfl
      simp [cI] at s0 s1 s2
      obtain ⟨m0, g0, _, _⟩ := DataW.trod_int Tryd.underlying3 s0
      obtain ⟨m1, g1, _, _⟩ := DataW.trod_int Tryd.underlying3 s1
      obtain ⟨m2, g2, _, _⟩ := DataW.trod_int Tryd.underlying3 s2
      obtain ⟨n3, e3, _, f3⟩ := DataW.trod_int Tryd.underlying3 t3
      simp at e0 e1 e3 g0 g1 g2
      subst e0 e1 e3 g0 g1 g2
      exact ⟨⟨n0, n1, ⟨m0, m1, m2⟩, n3⟩, bounds f3, rfl⟩

set_option maxRecDepth 100000 in
theorem script_open {s : Option Addr} {n c : Nat} {d : DataW H} {ps : List MemPlace} (h : DataW.Trod enc Tryd.prog W 0 (fun _ => true) true 22 (.slice s n c) d ps) (hk : Rows.uptoBulk d ≤ 1048576) :
    ∃ os : List OpT, os.length = n ∧ RdO W (.slice s n c) os ∧ (∀ o ∈ os, LedM.i64 o.n) ∧ n ≤ 1048576 := by
  obtain ⟨fuel, hf⟩ := h
  rcases Go.Deep.open_slice Tryd.underlying22 hf with ⟨hcs, _⟩ | ⟨a, len, cap, m, q, D, Pl, hcs, _, hl, hm, hmm, hd, hx⟩
  · simp [Value.cells] at hcs
    obtain ⟨rfl, rfl, rfl⟩ := hcs
    exact ⟨[], rfl, ⟨none, 0, rfl, Nat.le_refl _, fun _ => rfl, fun i hi => by simp at hi⟩, (fun c hc => by cases hc), by omega⟩
  · simp [Value.cells] at hcs
    obtain ⟨rfl, rfl, rfl⟩ := hcs
    have ce : Tryd.prog.cellsOf 26 = 6 := by kernel_rfl
    rw [ce] at hx
    simp only [if_true] at hmm
    have hd1 : d = .slice ((List.range n).map D) ((List.range (m - n)).map fun j => D (n + j)) := (Prod.mk.inj hd).1
    have hn : n ≤ 1048576 := by
      have h1 := bulk_len ((List.range n).map D)
      rw [List.length_map, List.length_range] at h1
      rw [hd1] at hk
      simp only [Rows.uptoBulk] at hk
      omega
    obtain ⟨b, off, spot⟩ := a
    by_cases h0 : n = 0
    · subst h0
      exact ⟨[], rfl, ⟨_, c, rfl, Nat.zero_le _, (fun h => by cases h), fun i hi => by simp at hi⟩, (fun c hc => by cases hc), by omega⟩
    have hspot : spot = none := by
      obtain ⟨cs', g1, _⟩ := hx 0 (by omega)
      obtain ⟨_, hlen, hcell⟩ := World.cells?_some g1
      have := hcell 0 (by omega)
      rw [List.getElem?_eq_getElem (by omega)] at this
      simpa [Addr.add] using World.cell?_spot this
    subst hspot
    have key2 : ∀ i, ∃ o : OpT, LedM.i64 o.n ∧ (i < n → b < W.heap.size ∧ W.rangeAt b (off + i * 6) (opT o)) := fun i => by
      by_cases hi : i < n
      · obtain ⟨cs', g1, g2⟩ := hx i (by omega)
        obtain ⟨_, hlen, hcell⟩ := World.cells?_some g1
        obtain ⟨o, oko, rfl⟩ := opt_cells g2
        have rg : W.rangeAt b (off + i * 6) (opT o) := fun j u hj => by
          have hj7 : j < 6 := (List.getElem?_eq_some_iff.1 hj).1
          have := hcell j hj7
          rw [addr_lit, addr_lit] at this
          rw [this]; exact hj
        exact ⟨o, oko, fun _ => ⟨World.block_lt_of_cell? W _ (rg 0 _ rfl), rg⟩⟩
      · exact ⟨⟨0, false, ⟨0, 0, 0⟩, 0⟩, ⟨by decide, by decide⟩, fun h => absurd h hi⟩
    let f := fun i => Classical.choose (key2 i)
    have hf1 : ∀ i, LedM.i64 (f i).n := fun i => (Classical.choose_spec (key2 i)).1
    have hf2 := fun i => (Classical.choose_spec (key2 i)).2
    refine ⟨(List.range n).map f, by simp, ⟨some ⟨b, off, none⟩, c, by simp, by simpa using hl, (fun h => by cases h), fun i hi => ?_⟩, fun x hx => ?_, hn⟩
    · have hin : i < n := by simpa using hi
      have e : oN ((List.range n).map f) i = f i := by simp [oN, List.getD_eq_getElem?_getD, hin]
      rw [e]
      obtain ⟨k1, k2⟩ := hf2 i hin
      exact ⟨b, off, rfl, k1, k2⟩
    · obtain ⟨i, _, rfl⟩ := List.mem_map.1 hx
      exact hf1 i
end
end Go.Proofs.YtfdehlfhnlgcjaaDoor
