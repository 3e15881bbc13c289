/-
  Ours: a policy and events that came in, opened, with what the second form's bound says.
-/
import Derived.Test.YtmbbigkpeefjjabDoorWirRow
import Derived.Test.YtmbbigkpeefjjabDoorCoLs
import Derived.ProofKit
import Derived.ChangeArms
import Derived.OpenShut
import Derived.Deep.Slices
namespace Go.Proofs.YtmbbigkpeefjjabDoor
open Go.ChangeShapes Go.WideShapes Go.ChangeAt Go.RowKit LedM PolM CoM

section
variable {H : Type} {enc : TypeId × Value → H} {W : World}
theorem slice_cells {t e : TypeId} {k : IntKind} {fuel : Nat} {v : Value} {x : DataW H × List MemPlace} (ht : Tryd.prog.underlying t = some (.slice e)) (he : Tryd.prog.underlying e = some (.int k)) (hc : Tryd.prog.cellsOf e = 1)
    (h : DataW.trod enc Tryd.prog W 0 (fun _ => true) true fuel t [v] = some x) : ∃ a n c, v = .slice a n c := by
  rcases open_ints ht he hc h with ⟨hcs, _⟩ | ⟨x, l, c, zs, hcs, _⟩
  · exact ⟨none, 0, 0, by simpa using hcs⟩
  · exact ⟨some x, l, c, by simpa using hcs⟩
theorem i64_list {l : List Int} (h : ∀ x ∈ l, i64 x) (k : Nat) : i64 (l.getD k 0) := by
  rw [List.getD_eq_getElem?_getD]
  cases e : l[k]? with
  | none => exact ⟨by decide, by decide⟩
  | some x => exact h x (List.mem_of_getElem? e)
set_option maxRecDepth 100000 in
theorem polc_open {base : Nat} {v : Value} {d : DataW H} {ps : List MemPlace} (hval : Value.okWide Tryd.prog W .any base 24 v)
    (hd : DataW.Trod enc Tryd.prog W 0 (fun _ => true) true 24 v d ps) : ∃ (l hs : List Int) (s : Value), v = PV l s ∧ l.length = 17 ∧ (∀ k, i64 (l.getD k 0)) ∧ Rd W s (bkL hs) ∧ (∀ k, i64 (hs.getD k 0)) ∧ ((∀ n ∈ d.weights Tryd.prog 24, n ≤ reachBytes) → hs.length * 8 ≤ 140737488355328) := by
  obtain ⟨cs, rfl, hs⟩ := okWide_struct Tryd.underlying24 hval
  obtain ⟨fuel, hf⟩ := hd
  obtain ⟨ys, kk, hkk, hdx, hlen, hyl, hfl⟩ := DataW.trod_struct Tryd.underlying24 hf
  have cI : Tryd.prog.cellsOf 3 = 1 := by kernel_rfl
  have cJ : Tryd.prog.cellsOf 2 = 1 := by kernel_rfl
  have cS : Tryd.prog.cellsOf 22 = 1 := by kernel_rfl
  have cT : Tryd.prog.cellsOf 24 = 18 := by kernel_rfl
  rw [cT] at hs
  obtain ⟨l⟩ := cs
  simp at hs
  simp only [Value.cells] at hfl
  match ys, hyl, l, hs with
  | [y0, y1, y2, y3, y4, y5, y6, y7, y8, y9, y10, y11, y12, y13, y14, y15, y16, y17], _, [v0, v1, v2, v3, v4, v5, v6, v7, v8, v9, v10, v11, v12, v13, v14, v15, v16, v17], _ =>
    have t0 := hfl 0 _ rfl
    have t1 := hfl 1 _ rfl
    have t2 := hfl 2 _ rfl
    have t3 := hfl 3 _ rfl
    have t4 := hfl 4 _ rfl
    have t5 := hfl 5 _ rfl
    have t6 := hfl 6 _ rfl
    have t7 := hfl 7 _ rfl
    have t8 := hfl 8 _ rfl
    have t9 := hfl 9 _ rfl
    have t10 := hfl 10 _ rfl
    have t11 := hfl 11 _ rfl
    have t12 := hfl 12 _ rfl
    have t13 := hfl 13 _ rfl
    have t14 := hfl 14 _ rfl
    have t15 := hfl 15 _ rfl
    have t16 := hfl 16 _ rfl
    have t17 := hfl 17 _ rfl
    simp [cI, cJ, cS] at t0 t1 t2 t3 t4 t5 t6 t7 t8 t9 t10 t11 t12 t13 t14 t15 t16 t17
    obtain ⟨n0, e0, _, f0⟩ := DataW.trod_int Tryd.underlying3 t0
    obtain ⟨n1, e1, _, f1⟩ := DataW.trod_int Tryd.underlying3 t1
    obtain ⟨n2, e2, _, f2⟩ := DataW.trod_int Tryd.underlying3 t2
    obtain ⟨n3, e3, _, f3⟩ := DataW.trod_int Tryd.underlying3 t3
    obtain ⟨n4, e4, _, f4⟩ := DataW.trod_int Tryd.underlying2 t4
    obtain ⟨n5, e5, _, f5⟩ := DataW.trod_int Tryd.underlying2 t5
    obtain ⟨n6, e6, _, f6⟩ := DataW.trod_int Tryd.underlying2 t6
    obtain ⟨n7, e7, _, f7⟩ := DataW.trod_int Tryd.underlying2 t7
    obtain ⟨n8, e8, _, f8⟩ := DataW.trod_int Tryd.underlying2 t8
    obtain ⟨n9, e9, _, f9⟩ := DataW.trod_int Tryd.underlying3 t9
    obtain ⟨n10, e10, _, f10⟩ := DataW.trod_int Tryd.underlying3 t10
    obtain ⟨n11, e11, _, f11⟩ := DataW.trod_int Tryd.underlying3 t11
    obtain ⟨n12, e12, _, f12⟩ := DataW.trod_int Tryd.underlying3 t12
    obtain ⟨n13, e13, _, f13⟩ := DataW.trod_int Tryd.underlying3 t13
    obtain ⟨n14, e14, _, f14⟩ := DataW.trod_int Tryd.underlying3 t14
    obtain ⟨n15, e15, _, f15⟩ := DataW.trod_int Tryd.underlying3 t15
    obtain ⟨n16, e16, _, f16⟩ := DataW.trod_int Tryd.underlying3 t16
    obtain ⟨a, nn, cc, rfl⟩ := slice_cells Tryd.underlying22 Tryd.underlying3 (by kernel_rfl) t17
    obtain ⟨bs, l1, r1, w1, dd⟩ := ints_open (a := a) (len := nn) (cap := cc) (d := y17.1) (ps := y17.2) Tryd.underlying22 Tryd.underlying3 (by kernel_rfl) ⟨_, t17⟩
    simp at e0 e1 e2 e3 e4 e5 e6 e7 e8 e9 e10 e11 e12 e13 e14 e15 e16
    subst e0 e1 e2 e3 e4 e5 e6 e7 e8 e9 e10 e11 e12 e13 e14 e15 e16
    refine ⟨[n0, n1, n2, n3, n4, n5, n6, n7, n8, n9, n10, n11, n12, n13, n14, n15, n16], bs, .slice a nn cc, rfl, rfl, fun k => i64_list (fun x hx => ?_) k, r1, fun k => i64_list (fun x hx => bounds (w1 x hx)) k, fun hw => ?_⟩
    rotate_left
    · rcases dd with ⟨_, e⟩ | ⟨elems, spare, e0, e1, e2⟩
      · rw [l1, e]; omega
      · have hd' : d = .agg ([y0, y1, y2, y3, y4, y5, y6, y7, y8, y9, y10, y11, y12, y13, y14, y15, y16, y17].map (·.1)) := congrArg Prod.fst hdx
        have := hw ((elems.length + spare.length) * Tryd.prog.bytesOf 3) (by
          rw [hd']
          simp only [DataW.weights, Tryd.underlying24]
          refine DataW.weights_mem_each (j := 17) (t := 22) (d := y17.1) rfl rfl _ ?_
          rw [e0]
          simp [DataW.weights, Tryd.underlying22])
        have e8 : Tryd.prog.bytesOf 3 = 8 := by kernel_rfl
        rw [e8] at this; unfold reachBytes at this; omega
    simp only [List.mem_cons, List.not_mem_nil, or_false] at hx
    rcases hx with rfl | rfl | rfl | rfl | rfl | rfl | rfl | rfl | rfl | rfl | rfl | rfl | rfl | rfl | rfl | rfl | rfl
    · exact bounds f0
    · exact bounds f1
    · exact bounds f2
    · exact bounds f3
    · exact bounds f4
    · exact bounds f5
    · exact bounds f6
    · exact bounds f7
    · exact bounds f8
    · exact bounds f9
    · exact bounds f10
    · exact bounds f11
    · exact bounds f12
    · exact bounds f13
    · exact bounds f14
    · exact bounds f15
    · exact bounds f16
theorem ev_cells {fuel : Nat} {l : List Value} {x : DataW H × List MemPlace} (hf : DataW.trod enc Tryd.prog W 0 (fun _ => true) true fuel 37 l = some x) :
    ∃ e : Ev, l = evL e ∧ EvOk e := by
  obtain ⟨ys, kk, hkk, hdd, hlen, hyl, hfl⟩ := DataW.trod_struct Tryd.underlying37 hf
  have cI : Tryd.prog.cellsOf 3 = 1 := by kernel_rfl
  have cL : Tryd.prog.cellsOf 2 = 1 := by kernel_rfl
  have cT : Tryd.prog.cellsOf 37 = 4 := by kernel_rfl
  rw [cT] at hlen
  match ys, hyl, l, hlen with
  | [y0, y1, y2, y3], _, [v0, v1, v2, v3], _ =>
    have t0 := hfl 0 _ rfl
    have t1 := hfl 1 _ rfl
    have t2 := hfl 2 _ rfl
    have t3 := hfl 3 _ rfl
    simp [cI, cL] at t0 t1 t2 t3
    obtain ⟨n0, e0, _, f0⟩ := DataW.trod_int Tryd.underlying3 t0
    obtain ⟨n1, e1, _, f1⟩ := DataW.trod_int Tryd.underlying3 t1
    obtain ⟨n2, e2, _, f2⟩ := DataW.trod_int Tryd.underlying3 t2
    obtain ⟨n3, e3, _, f3⟩ := DataW.trod_int Tryd.underlying2 t3
    simp at e0 e1 e2 e3
    subst e0 e1 e2 e3
    exact ⟨⟨n0, n1, n2, n3⟩, rfl, bounds f0, bounds f1, bounds f2, bounds f3⟩
theorem ev_open {base : Nat} {v : Value} {d : DataW H} {ps : List MemPlace} (hval : Value.okWide Tryd.prog W .any base 37 v)
    (hd : DataW.Trod enc Tryd.prog W 0 (fun _ => true) true 37 v d ps) : ∃ e : Ev, v = evV e ∧ EvOk e := by
  obtain ⟨cs, rfl, hs⟩ := okWide_struct Tryd.underlying37 hval
  obtain ⟨fuel, hf⟩ := hd
  obtain ⟨l⟩ := cs
  simp only [Value.cells] at hf
  obtain ⟨e, rfl, ok⟩ := ev_cells hf
  exact ⟨e, rfl, ok⟩
theorem ez_ok : EvOk ez := ⟨⟨by decide, by decide⟩, ⟨by decide, by decide⟩, ⟨by decide, by decide⟩, ⟨by decide, by decide⟩⟩
theorem addr_litC (b o : Nat) (i : Nat) : (⟨b, o, none⟩ : Addr).add i = ⟨b, o + i, none⟩ := by unfold Addr.add; split <;> simp_all
set_option maxRecDepth 100000 in
theorem evs_open {s : Option Addr} {n c : Nat} {d : DataW H} {ps : List MemPlace} (h : DataW.Trod enc Tryd.prog W 0 (fun _ => true) true 49 (.slice s n c) d ps) :
    ∃ es : List Ev, es.length = n ∧ RdV W (.slice s n c) es ∧ (∀ i, EvOk (eN es i)) ∧ ((∀ n ∈ d.weights Tryd.prog 49, n ≤ reachBytes) → es.length * 32 ≤ 140737488355328) := by
  obtain ⟨fuel, hf⟩ := h
  rcases Go.Deep.open_slice Tryd.underlying49 hf with ⟨hcs, _⟩ | ⟨a, len, cap, m, q, D, Pl, hcs, _, hl, hm, hmm, hd, hx⟩
  · simp [Value.cells] at hcs
    obtain ⟨rfl, rfl, rfl⟩ := hcs
    exact ⟨[], rfl, ⟨none, 0, rfl, Nat.le_refl _, fun _ => rfl, fun i hi => by simp at hi⟩, fun i => by simpa [eN] using ez_ok, fun _ => by simp⟩
  · simp [Value.cells] at hcs
    obtain ⟨rfl, rfl, rfl⟩ := hcs
    have ce : Tryd.prog.cellsOf 37 = 4 := by kernel_rfl
    rw [ce] at hx
    simp only [if_true] at hmm
    obtain ⟨b, off, spot⟩ := a
    by_cases h0 : n = 0
    · subst h0
      exact ⟨[], rfl, ⟨_, c, rfl, Nat.zero_le _, (fun h => by cases h), fun i hi => by simp at hi⟩, fun i => by simpa [eN] using ez_ok, fun _ => by simp⟩
    have hspot : spot = none := by
      obtain ⟨cs', g1, _⟩ := hx 0 (by omega)
      obtain ⟨_, hlen, hcell⟩ := World.cells?_some g1
      have := hcell 0 (by omega)
      rw [List.getElem?_eq_getElem (by omega)] at this
      simpa [Addr.add] using World.cell?_spot this
    subst hspot
    have key : ∀ i, ∃ e : Ev, EvOk e ∧ (i < n → b < W.heap.size ∧ W.rangeAt b (off + i * 4) (evL e)) := fun i => by
      by_cases hi : i < n
      · obtain ⟨cs', g1, g2⟩ := hx i (by omega)
        obtain ⟨_, hlen, hcell⟩ := World.cells?_some g1
        obtain ⟨e, rfl, ok⟩ := ev_cells g2
        have r : W.rangeAt b (off + i * 4) (evL e) := fun j u hj => by
          have hj3 : j < 4 := (List.getElem?_eq_some_iff.1 hj).1
          have := hcell j hj3
          rw [addr_litC, addr_litC] at this
          rw [this]; exact hj
        refine ⟨e, ok, fun _ => ⟨?_, r⟩⟩
        have c0 := r 0 _ rfl
        exact World.block_lt_of_cell? W _ c0
      · exact ⟨ez, ez_ok, fun h => absurd h hi⟩
    let f := fun i => Classical.choose (key i)
    have hf1 : ∀ i, EvOk (f i) := fun i => (Classical.choose_spec (key i)).1
    have hf2 := fun i => (Classical.choose_spec (key i)).2
    have eN' : ∀ i, i < n → eN ((List.range n).map f) i = f i := fun i hin => by simp [eN, List.getD_eq_getElem?_getD, hin]
    refine ⟨(List.range n).map f, by simp, ⟨some ⟨b, off, none⟩, c, by simp, by simpa using hl, (fun h => by cases h), fun i hi => ?_⟩, fun i => ?_, fun hw => ?_⟩
    · have hin : i < n := by simpa using hi
      rw [eN' i hin]
      obtain ⟨k1, k2⟩ := hf2 i hin
      exact ⟨b, off, rfl, k1, k2⟩
    · by_cases hi : i < n
      · rw [eN' i hi]; exact hf1 i
      · have : eN ((List.range n).map f) i = ez := by simp [eN, List.getD_eq_getElem?_getD, hi]
        rw [this]; exact ez_ok
    · have hd' : d = .slice ((List.range n).map D) ((List.range (m - n)).map fun j => D (n + j)) := congrArg Prod.fst hd
      have := hw ((((List.range n).map D).length + ((List.range (m - n)).map fun j => D (n + j)).length) * Tryd.prog.bytesOf 37) (by
        rw [hd']
        simp [DataW.weights, Tryd.underlying49])
      have e8 : Tryd.prog.bytesOf 37 = 32 := by kernel_rfl
      rw [e8] at this; unfold reachBytes at this
      simp at this ⊢; omega
end
end Go.Proofs.YtmbbigkpeefjjabDoor

namespace Go.Proofs.YtmbbigkpeefjjabDoor
open Go.ChangeShapes Go.WideShapes Go.ChangeAt Go.RowKit LedM PolM CoM

section
variable {H : Type} {enc : TypeId × Value → H} {W : World}
set_option maxRecDepth 100000 in
theorem polc_openU {base : Nat} {v : Value} {d : DataW H} {ps : List MemPlace} (hval : Value.okWide Tryd.prog W .any base 24 v)
    (hd : DataW.Trod enc Tryd.prog W 0 (fun _ => true) true 24 v d ps) (hk : Rows.uptoBulk d ≤ 1048576) : ∃ (l hs : List Int) (s : Value), v = PV l s ∧ l.length = 17 ∧ (∀ k, i64 (l.getD k 0)) ∧ Rd W s (bkL hs) ∧ (∀ k, i64 (hs.getD k 0)) ∧ hs.length ≤ 1048576 := by
  obtain ⟨cs, rfl, hs⟩ := okWide_struct Tryd.underlying24 hval
  obtain ⟨fuel, hf⟩ := hd
  obtain ⟨ys, kk, hkk, hdx, hlen, hyl, hfl⟩ := DataW.trod_struct Tryd.underlying24 hf
  have cI : Tryd.prog.cellsOf 3 = 1 := by kernel_rfl
  have cJ : Tryd.prog.cellsOf 2 = 1 := by kernel_rfl
  have cS : Tryd.prog.cellsOf 22 = 1 := by kernel_rfl
  have cT : Tryd.prog.cellsOf 24 = 18 := by kernel_rfl
  rw [cT] at hs
  obtain ⟨l⟩ := cs
  simp at hs
  simp only [Value.cells] at hfl
  match ys, hyl, l, hs with
  | [y0, y1, y2, y3, y4, y5, y6, y7, y8, y9, y10, y11, y12, y13, y14, y15, y16, y17], _, [v0, v1, v2, v3, v4, v5, v6, v7, v8, v9, v10, v11, v12, v13, v14, v15, v16, v17], _ =>
    have t0 := hfl 0 _ rfl
    have t1 := hfl 1 _ rfl
    have t2 := hfl 2 _ rfl
    have t3 := hfl 3 _ rfl
    have t4 := hfl 4 _ rfl
    have t5 := hfl 5 _ rfl
    have t6 := hfl 6 _ rfl
    have t7 := hfl 7 _ rfl
    have t8 := hfl 8 _ rfl
    have t9 := hfl 9 _ rfl
    have t10 := hfl 10 _ rfl
    have t11 := hfl 11 _ rfl
    have t12 := hfl 12 _ rfl
    have t13 := hfl 13 _ rfl
    have t14 := hfl 14 _ rfl
    have t15 := hfl 15 _ rfl
    have t16 := hfl 16 _ rfl
    have t17 := hfl 17 _ rfl
    simp [cI, cJ, cS] at t0 t1 t2 t3 t4 t5 t6 t7 t8 t9 t10 t11 t12 t13 t14 t15 t16 t17
    obtain ⟨n0, e0, _, f0⟩ := DataW.trod_int Tryd.underlying3 t0
    obtain ⟨n1, e1, _, f1⟩ := DataW.trod_int Tryd.underlying3 t1
    obtain ⟨n2, e2, _, f2⟩ := DataW.trod_int Tryd.underlying3 t2
    obtain ⟨n3, e3, _, f3⟩ := DataW.trod_int Tryd.underlying3 t3
    obtain ⟨n4, e4, _, f4⟩ := DataW.trod_int Tryd.underlying2 t4
    obtain ⟨n5, e5, _, f5⟩ := DataW.trod_int Tryd.underlying2 t5
    obtain ⟨n6, e6, _, f6⟩ := DataW.trod_int Tryd.underlying2 t6
    obtain ⟨n7, e7, _, f7⟩ := DataW.trod_int Tryd.underlying2 t7
    obtain ⟨n8, e8, _, f8⟩ := DataW.trod_int Tryd.underlying2 t8
    obtain ⟨n9, e9, _, f9⟩ := DataW.trod_int Tryd.underlying3 t9
    obtain ⟨n10, e10, _, f10⟩ := DataW.trod_int Tryd.underlying3 t10
    obtain ⟨n11, e11, _, f11⟩ := DataW.trod_int Tryd.underlying3 t11
    obtain ⟨n12, e12, _, f12⟩ := DataW.trod_int Tryd.underlying3 t12
    obtain ⟨n13, e13, _, f13⟩ := DataW.trod_int Tryd.underlying3 t13
    obtain ⟨n14, e14, _, f14⟩ := DataW.trod_int Tryd.underlying3 t14
    obtain ⟨n15, e15, _, f15⟩ := DataW.trod_int Tryd.underlying3 t15
    obtain ⟨n16, e16, _, f16⟩ := DataW.trod_int Tryd.underlying3 t16
    obtain ⟨a, nn, cc, rfl⟩ := slice_cells Tryd.underlying22 Tryd.underlying3 (by kernel_rfl) t17
    obtain ⟨bs, l1, r1, w1, dd⟩ := ints_open (a := a) (len := nn) (cap := cc) (d := y17.1) (ps := y17.2) Tryd.underlying22 Tryd.underlying3 (by kernel_rfl) ⟨_, t17⟩
    simp at e0 e1 e2 e3 e4 e5 e6 e7 e8 e9 e10 e11 e12 e13 e14 e15 e16
    subst e0 e1 e2 e3 e4 e5 e6 e7 e8 e9 e10 e11 e12 e13 e14 e15 e16
    refine ⟨[n0, n1, n2, n3, n4, n5, n6, n7, n8, n9, n10, n11, n12, n13, n14, n15, n16], bs, .slice a nn cc, rfl, rfl, fun k => i64_list (fun x hx => ?_) k, r1, fun k => i64_list (fun x hx => bounds (w1 x hx)) k, ?_⟩
    rotate_left
    · have hd' : d = .agg ([y0, y1, y2, y3, y4, y5, y6, y7, y8, y9, y10, y11, y12, y13, y14, y15, y16, y17].map (·.1)) := congrArg Prod.fst hdx
      have b17 := bulk_mem (d := y17.1) (l := [y0, y1, y2, y3, y4, y5, y6, y7, y8, y9, y10, y11, y12, y13, y14, y15, y16, y17].map (·.1)) (by simp)
      have bs' := bulk_slice dd
      rw [hd'] at hk
      simp only [Rows.uptoBulk] at hk
      omega
    simp only [List.mem_cons, List.not_mem_nil, or_false] at hx
    rcases hx with rfl | rfl | rfl | rfl | rfl | rfl | rfl | rfl | rfl | rfl | rfl | rfl | rfl | rfl | rfl | rfl | rfl
    · exact bounds f0
    · exact bounds f1
    · exact bounds f2
    · exact bounds f3
    · exact bounds f4
    · exact bounds f5
    · exact bounds f6
    · exact bounds f7
    · exact bounds f8
    · exact bounds f9
    · exact bounds f10
    · exact bounds f11
    · exact bounds f12
    · exact bounds f13
    · exact bounds f14
    · exact bounds f15
    · exact bounds f16
set_option maxRecDepth 100000 in
theorem evs_openU {s : Option Addr} {n c : Nat} {d : DataW H} {ps : List MemPlace} (h : DataW.Trod enc Tryd.prog W 0 (fun _ => true) true 49 (.slice s n c) d ps) (hk : Rows.uptoBulk d ≤ 1048576) :
    ∃ es : List Ev, es.length = n ∧ RdV W (.slice s n c) es ∧ (∀ i, EvOk (eN es i)) ∧ es.length ≤ 1048576 := by
  obtain ⟨fuel, hf⟩ := h
  rcases Go.Deep.open_slice Tryd.underlying49 hf with ⟨hcs, _⟩ | ⟨a, len, cap, m, q, D, Pl, hcs, _, hl, hm, hmm, hd, hx⟩
  · simp [Value.cells] at hcs
    obtain ⟨rfl, rfl, rfl⟩ := hcs
    exact ⟨[], rfl, ⟨none, 0, rfl, Nat.le_refl _, fun _ => rfl, fun i hi => by simp at hi⟩, fun i => by simpa [eN] using ez_ok, by simp⟩
  · simp [Value.cells] at hcs
    obtain ⟨rfl, rfl, rfl⟩ := hcs
    have ce : Tryd.prog.cellsOf 37 = 4 := by kernel_rfl
    rw [ce] at hx
    simp only [if_true] at hmm
    obtain ⟨b, off, spot⟩ := a
    by_cases h0 : n = 0
    · subst h0
      exact ⟨[], rfl, ⟨_, c, rfl, Nat.zero_le _, (fun h => by cases h), fun i hi => by simp at hi⟩, fun i => by simpa [eN] using ez_ok, by simp⟩
    have hspot : spot = none := by
      obtain ⟨cs', g1, _⟩ := hx 0 (by omega)
      obtain ⟨_, hlen, hcell⟩ := World.cells?_some g1
      have := hcell 0 (by omega)
      rw [List.getElem?_eq_getElem (by omega)] at this
      simpa [Addr.add] using World.cell?_spot this
    subst hspot
    have key : ∀ i, ∃ e : Ev, EvOk e ∧ (i < n → b < W.heap.size ∧ W.rangeAt b (off + i * 4) (evL e)) := fun i => by
      by_cases hi : i < n
      · obtain ⟨cs', g1, g2⟩ := hx i (by omega)
        obtain ⟨_, hlen, hcell⟩ := World.cells?_some g1
        obtain ⟨e, rfl, ok⟩ := ev_cells g2
        have r : W.rangeAt b (off + i * 4) (evL e) := fun j u hj => by
          have hj3 : j < 4 := (List.getElem?_eq_some_iff.1 hj).1
          have := hcell j hj3
          rw [addr_litC, addr_litC] at this
          rw [this]; exact hj
        refine ⟨e, ok, fun _ => ⟨?_, r⟩⟩
        have c0 := r 0 _ rfl
        exact World.block_lt_of_cell? W _ c0
      · exact ⟨ez, ez_ok, fun h => absurd h hi⟩
    let f := fun i => Classical.choose (key i)
    have hf1 : ∀ i, EvOk (f i) := fun i => (Classical.choose_spec (key i)).1
    have hf2 := fun i => (Classical.choose_spec (key i)).2
    have eN' : ∀ i, i < n → eN ((List.range n).map f) i = f i := fun i hin => by simp [eN, List.getD_eq_getElem?_getD, hin]
    refine ⟨(List.range n).map f, by simp, ⟨some ⟨b, off, none⟩, c, by simp, by simpa using hl, (fun h => by cases h), fun i hi => ?_⟩, fun i => ?_, ?_⟩
    · have hin : i < n := by simpa using hi
      rw [eN' i hin]
      obtain ⟨k1, k2⟩ := hf2 i hin
      exact ⟨b, off, rfl, k1, k2⟩
    · by_cases hi : i < n
      · rw [eN' i hi]; exact hf1 i
      · have : eN ((List.range n).map f) i = ez := by simp [eN, List.getD_eq_getElem?_getD, hi]
        rw [this]; exact ez_ok
    · have hd' : d = .slice ((List.range n).map D) ((List.range (m - n)).map fun j => D (n + j)) := congrArg Prod.fst hd
      have h1 := bulk_len ((List.range n).map D)
      rw [List.length_map, List.length_range] at h1
      rw [hd'] at hk
      simp only [Rows.uptoBulk] at hk
      simp; omega
end
end Go.Proofs.YtmbbigkpeefjjabDoor
