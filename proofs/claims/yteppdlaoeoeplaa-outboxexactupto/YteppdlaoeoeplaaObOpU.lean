/-
  Ours: a policy and a script that came in, opened, with what the second form's bound says (gen_obi.py).
-/
import Derived.Test.YteppdlaoeoeplaaObOpen
namespace Go.Proofs.Yteppdlaoeoeplaa
open Go.ChangeShapes Go.WideShapes Go.ChangeAt Go.RowKit LedM PolM ObM

section
variable {H : Type} {enc : TypeId × Value → H} {W : World}
theorem bulk_elem {d : DataW H} {l r : List (DataW H)} (h : d ∈ l) (hk : Rows.uptoBulk (DataW.slice l r) ≤ 1048576) : Rows.uptoBulk d ≤ 1048576 := by
  have := bulk_mem h
  simp only [Rows.uptoBulk] at hk
  omega
theorem bulk_part {d : DataW H} {l : List (DataW H)} (h : d ∈ l) (hk : Rows.uptoBulk (DataW.agg l) ≤ 1048576) : Rows.uptoBulk d ≤ 1048576 := by
  have := bulk_mem h
  simp only [Rows.uptoBulk.eq_6] at hk
  omega
set_option maxRecDepth 100000 in
theorem polc_openU {base : Nat} {v : Value} {d : DataW H} {ps : List MemPlace} (hval : Value.okWide Try.prog W .any base 24 v)
    (hd : DataW.Trod enc Try.prog W 0 (fun _ => true) true 24 v d ps) (hk : Rows.uptoBulk d ≤ 1048576) : ∃ (l hs : List Int) (s : Value), v = PV l s ∧ l.length = 17 ∧ (∀ k, i64 (l.getD k 0)) ∧ Rd W s (bkL hs) ∧ (∀ k, i64 (hs.getD k 0)) ∧ hs.length ≤ 1048576 := by
  obtain ⟨cs, rfl, hs⟩ := okWide_struct Try.underlying24 hval
  obtain ⟨fuel, hf⟩ := hd
  obtain ⟨ys, kk, hkk, hdx, hlen, hyl, hfl⟩ := DataW.trod_struct Try.underlying24 hf
  have cI : Try.prog.cellsOf 3 = 1 := by kernel_rfl
  have cJ : Try.prog.cellsOf 2 = 1 := by kernel_rfl
  have cS : Try.prog.cellsOf 22 = 1 := by kernel_rfl
  have cT : Try.prog.cellsOf 24 = 18 := by kernel_rfl
  rw [cT] at hs
  obtain ⟨l⟩ := cs
  simp at hs
  simp only [Value.cells] at hfl
  match ys, hyl, l, hs with
  | [y0, y1, y2, y3, y4, y5, y6, y7, y8, y9, y10, y11, y12, y13, y14, y15, y16, y17], _, [v0, v1, v2, v3, v4, v5, v6, v7, v8, v9, v10, v11, v12, v13, v14, v15, v16, v17], _ =>
    have t0 := hfl 0 _ rfl
    have t1 := hfl 1 _ rfl
    have t2 := hfl 2 _ rfl
    have t3 := hfl 3 _ rfl
    have t4 := hfl 4 _ rfl
    have t5 := hfl 5 _ rfl
    have t6 := hfl 6 _ rfl
    have t7 := hfl 7 _ rfl
    have t8 := hfl 8 _ rfl
    have t9 := hfl 9 _ rfl
    have t10 := hfl 10 _ rfl
    have t11 := hfl 11 _ rfl
    have t12 := hfl 12 _ rfl
    have t13 := hfl 13 _ rfl
    have t14 := hfl 14 _ rfl
    have t15 := hfl 15 _ rfl
    have t16 := hfl 16 _ rfl
    have t17 := hfl 17 _ rfl
    simp [cI, cJ, cS] at t0 t1 t2 t3 t4 t5 t6 t7 t8 t9 t10 t11 t12 t13 t14 t15 t16 t17
    obtain ⟨n0, e0, _, f0⟩ := DataW.trod_int Try.underlying3 t0
    obtain ⟨n1, e1, _, f1⟩ := DataW.trod_int Try.underlying3 t1
    obtain ⟨n2, e2, _, f2⟩ := DataW.trod_int Try.underlying3 t2
    obtain ⟨n3, e3, _, f3⟩ := DataW.trod_int Try.underlying3 t3
    obtain ⟨n4, e4, _, f4⟩ := DataW.trod_int Try.underlying2 t4
    obtain ⟨n5, e5, _, f5⟩ := DataW.trod_int Try.underlying2 t5
    obtain ⟨n6, e6, _, f6⟩ := DataW.trod_int Try.underlying2 t6
    obtain ⟨n7, e7, _, f7⟩ := DataW.trod_int Try.underlying2 t7
    obtain ⟨n8, e8, _, f8⟩ := DataW.trod_int Try.underlying2 t8
    obtain ⟨n9, e9, _, f9⟩ := DataW.trod_int Try.underlying3 t9
    obtain ⟨n10, e10, _, f10⟩ := DataW.trod_int Try.underlying3 t10
    obtain ⟨n11, e11, _, f11⟩ := DataW.trod_int Try.underlying3 t11
    obtain ⟨n12, e12, _, f12⟩ := DataW.trod_int Try.underlying3 t12
    obtain ⟨n13, e13, _, f13⟩ := DataW.trod_int Try.underlying3 t13
    obtain ⟨n14, e14, _, f14⟩ := DataW.trod_int Try.underlying3 t14
    obtain ⟨n15, e15, _, f15⟩ := DataW.trod_int Try.underlying3 t15
    obtain ⟨n16, e16, _, f16⟩ := DataW.trod_int Try.underlying3 t16
    obtain ⟨a, nn, cc, rfl⟩ := slice_cells Try.underlying22 Try.underlying3 (by kernel_rfl) t17
    obtain ⟨bs, l1, r1, w1, dd⟩ := ints_open (a := a) (len := nn) (cap := cc) (d := y17.1) (ps := y17.2) Try.underlying22 Try.underlying3 (by kernel_rfl) ⟨_, t17⟩
    simp at e0 e1 e2 e3 e4 e5 e6 e7 e8 e9 e10 e11 e12 e13 e14 e15 e16
    subst e0 e1 e2 e3 e4 e5 e6 e7 e8 e9 e10 e11 e12 e13 e14 e15 e16
    refine ⟨[n0, n1, n2, n3, n4, n5, n6, n7, n8, n9, n10, n11, n12, n13, n14, n15, n16], bs, .slice a nn cc, rfl, rfl, fun k => i64_list (fun x hx => ?_) k, r1, fun k => i64_list (fun x hx => bounds (w1 x hx)) k, ?_⟩
    rotate_left
    · have hd' : d = .agg ([y0, y1, y2, y3, y4, y5, y6, y7, y8, y9, y10, y11, y12, y13, y14, y15, y16, y17].map (·.1)) := congrArg Prod.fst hdx
      have b17 := bulk_mem (d := y17.1) (l := [y0, y1, y2, y3, y4, y5, y6, y7, y8, y9, y10, y11, y12, y13, y14, y15, y16, y17].map (·.1)) (by simp)
      have bs' := bulk_slice dd
      rw [hd'] at hk
      simp only [Rows.uptoBulk] at hk
      omega
    simp only [List.mem_cons, List.not_mem_nil, or_false] at hx
    rcases hx with rfl | rfl | rfl | rfl | rfl | rfl | rfl | rfl | rfl | rfl | rfl | rfl | rfl | rfl | rfl | rfl | rfl
    · exact bounds f0
    · exact bounds f1
    · exact bounds f2
    · exact bounds f3
    · exact bounds f4
    · exact bounds f5
    · exact bounds f6
    · exact bounds f7
    · exact bounds f8
    · exact bounds f9
    · exact bounds f10
    · exact bounds f11
    · exact bounds f12
    · exact bounds f13
    · exact bounds f14
    · exact bounds f15
    · exact bounds f16

set_option maxRecDepth 100000 in
theorem script_cellsU {fuel : Nat} {l : List Value} {x : DataW H × List MemPlace} (hf : DataW.trod enc Try.prog W 0 (fun _ => true) true fuel 30 l = some x) (hk : Rows.uptoBulk x.1 ≤ 1048576) :
    ∃ (o : Oc) (a : Option Addr) (c : Nat), l = ocL o a c ∧ RdB W (.slice a o.bs.length c) o.bs ∧ OcOk o ∧ o.bs.length ≤ 1048576 := by
  have HK : Hid (Rows.uptoBulk x.1 ≤ 1048576) := hk
  clear hk
  obtain ⟨ys, kk, hkk, hdd, hlen, hyl, hfl⟩ := DataW.trod_struct Try.underlying30 hf
  have cI : Try.prog.cellsOf 3 = 1 := by kernel_rfl
  have cB : Try.prog.cellsOf 4 = 1 := by kernel_rfl
  have cS : Try.prog.cellsOf 28 = 1 := by kernel_rfl
  have cT : Try.prog.cellsOf 30 = 5 := by kernel_rfl
  rw [cT] at hlen
  match ys, hyl, l, hlen with
  | [y0, y1, y2, y3, y4], _, [v0, v1, v2, v3, v4], _ =>
    have t0 := hfl 0 _ rfl
    have t1 := hfl 1 _ rfl
    have t2 := hfl 2 _ rfl
    have t3 := hfl 3 _ rfl
    have t4 := hfl 4 _ rfl
    simp [cI, cB, cS] at t0 t1 t2 t3 t4
    obtain ⟨n0, e0, _, f0⟩ := DataW.trod_int Try.underlying3 t0
    obtain ⟨n1, e1, _⟩ := DataW.trod_bool Try.underlying4 t1
    obtain ⟨n2, e2, _, f2⟩ := DataW.trod_int Try.underlying3 t2
    obtain ⟨n3, e3, _, f3⟩ := DataW.trod_int Try.underlying3 t3
    obtain ⟨a, nn, cc, rfl⟩ := slice_cells Try.underlying28 Try.underlying5 (by kernel_rfl) t4
    obtain ⟨bs, l1, r1, b1, d1⟩ := bytes_open (a := a) (len := nn) (cap := cc) (d := y4.1) (ps := y4.2) Try.underlying28 Try.underlying5 (by kernel_rfl) ⟨_, t4⟩
    simp at e0 e1 e2 e3
    subst e0 e1 e2 e3 l1
    have ed : x.1 = DataW.agg ([y0, y1, y2, y3, y4].map (·.1)) := congrArg Prod.fst hdd
    have hb := bulk_slice d1
    have hb2 : Rows.uptoBulk y4.1 ≤ 1048576 := bulk_part (l := [y0, y1, y2, y3, y4].map (·.1)) (by simp) (by rw [← ed]; exact HK.out)
    exact ⟨⟨n0, n1, n2, n3, bs⟩, a, cc, rfl, r1, ⟨bounds f0, bounds f2, bounds f3⟩, by show bs.length ≤ _; omega⟩
set_option maxRecDepth 100000 in
theorem script_openU {s : Option Addr} {n c : Nat} {d : DataW H} {ps : List MemPlace} (h : DataW.Trod enc Try.prog W 0 (fun _ => true) true 25 (.slice s n c) d ps) (hk : Rows.uptoBulk d ≤ 1048576) :
    ∃ os : List Oc, os.length = n ∧ RdOc W (.slice s n c) os ∧ (∀ o ∈ os, OcOk o ∧ o.bs.length ≤ 1048576) ∧ n ≤ 1048576 := by
  obtain ⟨fuel, hf⟩ := h
  rcases Go.Deep.open_slice Try.underlying25 hf with ⟨hcs, _⟩ | ⟨a, len, cap, m, q, D, Pl, hcs, _, hl, hm, hmm, hd, hx⟩
  · simp [Value.cells] at hcs
    obtain ⟨rfl, rfl, rfl⟩ := hcs
    exact ⟨[], rfl, ⟨none, 0, rfl, fun i o hi => by simp at hi⟩, (fun o ho => nomatch ho), by omega⟩
  · simp [Value.cells] at hcs
    obtain ⟨rfl, rfl, rfl⟩ := hcs
    have ce : Try.prog.cellsOf 30 = 5 := by kernel_rfl
    rw [ce] at hx
    simp only [if_true] at hmm
    have hd1 : d = .slice ((List.range n).map D) ((List.range (m - n)).map fun j => D (n + j)) := (Prod.mk.inj hd).1
    have hn : n ≤ 1048576 := by
      have h1 := bulk_len ((List.range n).map D)
      rw [List.length_map, List.length_range] at h1
      rw [hd1] at hk
      simp only [Rows.uptoBulk] at hk
      omega
    obtain ⟨b, off, spot⟩ := a
    by_cases h0 : n = 0
    · subst h0
      exact ⟨[], rfl, ⟨_, c, rfl, fun i o hi => by simp at hi⟩, (fun o ho => nomatch ho), by omega⟩
    have hspot : spot = none := by
      obtain ⟨cs', g1, _⟩ := hx 0 (by omega)
      obtain ⟨_, hlen, hcell⟩ := World.cells?_some g1
      have := hcell 0 (by omega)
      rw [List.getElem?_eq_getElem (by omega)] at this
      simpa [Addr.add] using World.cell?_spot this
    subst hspot
    have key : ∀ i, ∃ o : Oc, (OcOk o ∧ o.bs.length ≤ 1048576) ∧ (i < n → ∃ (x : Option Addr) (cc : Nat), b < W.heap.size ∧ W.rangeAt b (off + i * 5) (ocL o x cc) ∧ RdB W (.slice x o.bs.length cc) o.bs) := fun i => by
      by_cases hi : i < n
      · obtain ⟨cs', g1, g2⟩ := hx i (by omega)
        obtain ⟨_, hlen, hcell⟩ := World.cells?_some g1
        have e2 : Rows.uptoBulk (D i) ≤ 1048576 := bulk_elem (l := (List.range n).map D) (r := (List.range (m - n)).map fun j => D (n + j)) (List.mem_map.2 ⟨i, List.mem_range.2 hi, rfl⟩) (by rw [← hd1]; exact hk)
        obtain ⟨o, x, cc, rfl, r, ob, ol⟩ := script_cellsU g2 e2
        have rg : W.rangeAt b (off + i * 5) (ocL o x cc) := fun j u hj => by
          have hj5 : j < 5 := (List.getElem?_eq_some_iff.1 hj).1
          have := hcell j hj5
          rw [addr_litC, addr_litC] at this
          rw [this]; exact hj
        refine ⟨o, ⟨ob, ol⟩, fun _ => ⟨x, cc, ?_, rg, r⟩⟩
        have c0 := rg 0 _ rfl
        exact World.block_lt_of_cell? W _ c0
      · exact ⟨⟨0, false, 0, 0, []⟩, ⟨⟨⟨by decide, by decide⟩, ⟨by decide, by decide⟩, ⟨by decide, by decide⟩⟩, by simp⟩, fun h => absurd h hi⟩
    let f := fun i => Classical.choose (key i)
    have hf1 : ∀ i, OcOk (f i) ∧ (f i).bs.length ≤ 1048576 := fun i => (Classical.choose_spec (key i)).1
    have hf2 := fun i => (Classical.choose_spec (key i)).2
    refine ⟨(List.range n).map f, by simp, ⟨some ⟨b, off, none⟩, c, by simp, fun i o hi => ?_⟩, fun o ho => ?_, hn⟩
    · have hin : i < n := by
        have := (List.getElem?_eq_some_iff.1 hi).1
        simpa using this
      have e : o = f i := by
        rw [List.getElem?_map, List.getElem?_range hin] at hi
        simpa using hi.symm
      subst e
      obtain ⟨x, cc, k1, k2⟩ := hf2 i hin
      exact ⟨b, off, x, cc, rfl, k1, k2⟩
    · obtain ⟨i, _, rfl⟩ := List.mem_map.1 ho
      exact hf1 i
end
end Go.Proofs.Yteppdlaoeoeplaa
