/-
  Ours: notices and portfolios that came in, opened (gen_wst9.py).
-/
import Derived.Test.YtdbjjeaflfoppaaWirOpenR
import Derived.Test.YtdbjjeaflfoppaaWirApa
import Derived.Deep.Slices
namespace Go.Proofs.Ytdbjjeaflfoppaa
open Go.ChangeShapes Go.WideShapes Go.ChangeAt Go.RowKit WsM

section
variable {H : Type} {enc : TypeId × Value → H} {W : World}
theorem take_one {cs : List Value} {i : Nat} {v : Value} (h : (cs.drop i).take 1 = [v]) : cs[i]? = some v := by
  have := congrArg (fun l => l[0]?) h
  simpa using this
set_option maxRecDepth 100000 in
theorem tm_cells {fuel : Nat} {l : List Value} {x : DataW H × List MemPlace} (hf : DataW.trod enc Try.prog W 0 (fun _ => true) true fuel 55 l = some x) : ∃ a : List Int, l = i6 a ∧ a.length = 6 ∧ I64s a := by
  obtain ⟨ys, kk, hkk, hdd, hlen, hyl, hfl⟩ := DataW.trod_struct Try.underlying55 hf
  have cT : Try.prog.cellsOf 55 = 6 := by kernel_rfl
  have cint : Try.prog.cellsOf 3 = 1 := by kernel_rfl
  have cint64 : Try.prog.cellsOf 2 = 1 := by kernel_rfl
  rw [cT] at hlen
  match ys, hyl, l, hlen with
  | [y0, y1, y2, y3, y4, y5], _, [v0, v1, v2, v3, v4, v5], _ =>
    have t0 := hfl 0 _ rfl
    have t1 := hfl 1 _ rfl
    have t2 := hfl 2 _ rfl
    have t3 := hfl 3 _ rfl
    have t4 := hfl 4 _ rfl
    have t5 := hfl 5 _ rfl
    simp [cint, cint64] at t0 t1 t2 t3 t4 t5
    obtain ⟨n0, e0, _, f0⟩ := DataW.trod_int Try.underlying3 t0
    obtain ⟨n1, e1, _, f1⟩ := DataW.trod_int Try.underlying2 t1
    obtain ⟨n2, e2, _, f2⟩ := DataW.trod_int Try.underlying2 t2
    obtain ⟨n3, e3, _, f3⟩ := DataW.trod_int Try.underlying3 t3
    obtain ⟨n4, e4, _, f4⟩ := DataW.trod_int Try.underlying3 t4
    obtain ⟨n5, e5, _, f5⟩ := DataW.trod_int Try.underlying3 t5
    simp at e0 e1 e2 e3 e4 e5
    subst e0 e1 e2 e3 e4 e5
    have hI : I64s [n0, n1, n2, n3, n4, n5] := fun z hz => by
      simp only [List.mem_cons, List.not_mem_nil, or_false] at hz
      rcases hz with rfl | rfl | rfl | rfl | rfl | rfl
      · exact bounds f0
      · exact bounds f1
      · exact bounds f2
      · exact bounds f3
      · exact bounds f4
      · exact bounds f5
    exact ⟨[n0, n1, n2, n3, n4, n5], rfl, rfl, hI⟩
set_option maxRecDepth 100000 in
theorem pa_cells {fuel : Nat} {l : List Value} {x : DataW H × List MemPlace} (hf : DataW.trod enc Try.prog W 0 (fun _ => true) true fuel 63 l = some x) : ∃ a : List Int, l = i5 a ∧ a.length = 5 ∧ I64s a := by
  obtain ⟨ys, kk, hkk, hdd, hlen, hyl, hfl⟩ := DataW.trod_struct Try.underlying63 hf
  have cT : Try.prog.cellsOf 63 = 5 := by kernel_rfl
  have cint64 : Try.prog.cellsOf 2 = 1 := by kernel_rfl
  rw [cT] at hlen
  match ys, hyl, l, hlen with
  | [y0, y1, y2, y3, y4], _, [v0, v1, v2, v3, v4], _ =>
    have t0 := hfl 0 _ rfl
    have t1 := hfl 1 _ rfl
    have t2 := hfl 2 _ rfl
    have t3 := hfl 3 _ rfl
    have t4 := hfl 4 _ rfl
    simp [cint64] at t0 t1 t2 t3 t4
    obtain ⟨n0, e0, _, f0⟩ := DataW.trod_int Try.underlying2 t0
    obtain ⟨n1, e1, _, f1⟩ := DataW.trod_int Try.underlying2 t1
    obtain ⟨n2, e2, _, f2⟩ := DataW.trod_int Try.underlying2 t2
    obtain ⟨n3, e3, _, f3⟩ := DataW.trod_int Try.underlying2 t3
    obtain ⟨n4, e4, _, f4⟩ := DataW.trod_int Try.underlying2 t4
    simp at e0 e1 e2 e3 e4
    subst e0 e1 e2 e3 e4
    have hI : I64s [n0, n1, n2, n3, n4] := fun z hz => by
      simp only [List.mem_cons, List.not_mem_nil, or_false] at hz
      rcases hz with rfl | rfl | rfl | rfl | rfl
      · exact bounds f0
      · exact bounds f1
      · exact bounds f2
      · exact bounds f3
      · exact bounds f4
    exact ⟨[n0, n1, n2, n3, n4], rfl, rfl, hI⟩
set_option maxRecDepth 100000 in
theorem cs_cells {fuel : Nat} {l : List Value} {x : DataW H × List MemPlace} (hf : DataW.trod enc Try.prog W 0 (fun _ => true) true fuel 61 l = some x) : ∃ (s : Int) (z : Bool) (a : List Int), l = cs15 s z a ∧ I64s [s] ∧ a.length = 13 ∧ I64s a := by
  obtain ⟨ys, kk, hkk, hdd, hlen, hyl, hfl⟩ := DataW.trod_struct Try.underlying61 hf
  have cT : Try.prog.cellsOf 61 = 15 := by kernel_rfl
  have cbool : Try.prog.cellsOf 4 = 1 := by kernel_rfl
  have cint : Try.prog.cellsOf 3 = 1 := by kernel_rfl
  have cint64 : Try.prog.cellsOf 2 = 1 := by kernel_rfl
  rw [cT] at hlen
  match ys, hyl, l, hlen with
  | [y0, y1, y2, y3, y4, y5, y6, y7, y8, y9, y10, y11, y12, y13, y14], _, [v0, v1, v2, v3, v4, v5, v6, v7, v8, v9, v10, v11, v12, v13, v14], _ =>
    have t0 := hfl 0 _ rfl
    have t1 := hfl 1 _ rfl
    have t2 := hfl 2 _ rfl
    have t3 := hfl 3 _ rfl
    have t4 := hfl 4 _ rfl
    have t5 := hfl 5 _ rfl
    have t6 := hfl 6 _ rfl
    have t7 := hfl 7 _ rfl
    have t8 := hfl 8 _ rfl
    have t9 := hfl 9 _ rfl
    have t10 := hfl 10 _ rfl
    have t11 := hfl 11 _ rfl
    have t12 := hfl 12 _ rfl
    have t13 := hfl 13 _ rfl
    have t14 := hfl 14 _ rfl
    simp [cbool, cint, cint64] at t0 t1 t2 t3 t4 t5 t6 t7 t8 t9 t10 t11 t12 t13 t14
    obtain ⟨n0, e0, _, f0⟩ := DataW.trod_int Try.underlying3 t0
    obtain ⟨n1, e1, _⟩ := DataW.trod_bool Try.underlying4 t1
    obtain ⟨n2, e2, _, f2⟩ := DataW.trod_int Try.underlying3 t2
    obtain ⟨n3, e3, _, f3⟩ := DataW.trod_int Try.underlying3 t3
    obtain ⟨n4, e4, _, f4⟩ := DataW.trod_int Try.underlying3 t4
    obtain ⟨n5, e5, _, f5⟩ := DataW.trod_int Try.underlying3 t5
    obtain ⟨n6, e6, _, f6⟩ := DataW.trod_int Try.underlying3 t6
    obtain ⟨n7, e7, _, f7⟩ := DataW.trod_int Try.underlying2 t7
    obtain ⟨n8, e8, _, f8⟩ := DataW.trod_int Try.underlying2 t8
    obtain ⟨n9, e9, _, f9⟩ := DataW.trod_int Try.underlying3 t9
    obtain ⟨n10, e10, _, f10⟩ := DataW.trod_int Try.underlying3 t10
    obtain ⟨n11, e11, _, f11⟩ := DataW.trod_int Try.underlying3 t11
    obtain ⟨n12, e12, _, f12⟩ := DataW.trod_int Try.underlying3 t12
    obtain ⟨n13, e13, _, f13⟩ := DataW.trod_int Try.underlying2 t13
    obtain ⟨n14, e14, _, f14⟩ := DataW.trod_int Try.underlying2 t14
    simp at e0 e1 e2 e3 e4 e5 e6 e7 e8 e9 e10 e11 e12 e13 e14
    subst e0 e1 e2 e3 e4 e5 e6 e7 e8 e9 e10 e11 e12 e13 e14
    have hI : I64s [n0, n2, n3, n4, n5, n6, n7, n8, n9, n10, n11, n12, n13, n14] := fun z hz => by
      simp only [List.mem_cons, List.not_mem_nil, or_false] at hz
      rcases hz with rfl | rfl | rfl | rfl | rfl | rfl | rfl | rfl | rfl | rfl | rfl | rfl | rfl | rfl
      · exact bounds f0
      · exact bounds f2
      · exact bounds f3
      · exact bounds f4
      · exact bounds f5
      · exact bounds f6
      · exact bounds f7
      · exact bounds f8
      · exact bounds f9
      · exact bounds f10
      · exact bounds f11
      · exact bounds f12
      · exact bounds f13
      · exact bounds f14
    exact ⟨n0, n1, [n2, n3, n4, n5, n6, n7, n8, n9, n10, n11, n12, n13, n14], rfl, fun z hz => hI z (by simp at hz; simp [hz]), rfl, fun z hz => hI z (List.mem_cons_of_mem _ hz)⟩
set_option maxRecDepth 100000 in
theorem ins_cells {fuel : Nat} {l : List Value} {x : DataW H × List MemPlace} (hf : DataW.trod enc Try.prog W 0 (fun _ => true) true fuel 108 l = some x) : ∃ i : Ins, l = insL i ∧ i.Ok := by
  obtain ⟨ys, kk, hkk, hdd, hlen, hyl, hfl⟩ := DataW.trod_struct Try.underlying108 hf
  have cT : Try.prog.cellsOf 108 = 4 := by kernel_rfl
  have cbool : Try.prog.cellsOf 4 = 1 := by kernel_rfl
  have cint : Try.prog.cellsOf 3 = 1 := by kernel_rfl
  have cint64 : Try.prog.cellsOf 2 = 1 := by kernel_rfl
  rw [cT] at hlen
  match ys, hyl, l, hlen with
  | [y0, y1, y2, y3], _, [v0, v1, v2, v3], _ =>
    have t0 := hfl 0 _ rfl
    have t1 := hfl 1 _ rfl
    have t2 := hfl 2 _ rfl
    have t3 := hfl 3 _ rfl
    simp [cbool, cint, cint64] at t0 t1 t2 t3
    obtain ⟨n0, e0, _, f0⟩ := DataW.trod_int Try.underlying3 t0
    obtain ⟨n1, e1, _, f1⟩ := DataW.trod_int Try.underlying2 t1
    obtain ⟨n2, e2, _, f2⟩ := DataW.trod_int Try.underlying2 t2
    obtain ⟨n3, e3, _⟩ := DataW.trod_bool Try.underlying4 t3
    simp at e0 e1 e2 e3
    subst e0 e1 e2 e3
    have hI : I64s [n0, n1, n2] := fun z hz => by
      simp only [List.mem_cons, List.not_mem_nil, or_false] at hz
      rcases hz with rfl | rfl | rfl
      · exact bounds f0
      · exact bounds f1
      · exact bounds f2
    exact ⟨⟨n0, n1, n2, n3⟩, rfl, ⟨hI⟩⟩
set_option maxRecDepth 100000 in
theorem nt_cells {fuel : Nat} {l : List Value} {x : DataW H × List MemPlace} (hf : DataW.trod enc Try.prog W 0 (fun _ => true) true fuel 28 l = some x) : ∃ n : Nt, l = ntL n ∧ n.Ok := by
  obtain ⟨ys, kk, hkk, hdd, hlen, hyl, hfl⟩ := DataW.trod_struct Try.underlying28 hf
  have cT : Try.prog.cellsOf 28 = 6 := by kernel_rfl
  have cbool : Try.prog.cellsOf 4 = 1 := by kernel_rfl
  have cint : Try.prog.cellsOf 3 = 1 := by kernel_rfl
  have cint64 : Try.prog.cellsOf 2 = 1 := by kernel_rfl
  rw [cT] at hlen
  match ys, hyl, l, hlen with
  | [y0, y1, y2, y3, y4, y5], _, [v0, v1, v2, v3, v4, v5], _ =>
    have t0 := hfl 0 _ rfl
    have t1 := hfl 1 _ rfl
    have t2 := hfl 2 _ rfl
    have t3 := hfl 3 _ rfl
    have t4 := hfl 4 _ rfl
    have t5 := hfl 5 _ rfl
    simp [cbool, cint, cint64] at t0 t1 t2 t3 t4 t5
    obtain ⟨n0, e0, _, f0⟩ := DataW.trod_int Try.underlying3 t0
    obtain ⟨n1, e1, _, f1⟩ := DataW.trod_int Try.underlying3 t1
    obtain ⟨n2, e2, _, f2⟩ := DataW.trod_int Try.underlying3 t2
    obtain ⟨n3, e3, _, f3⟩ := DataW.trod_int Try.underlying3 t3
    obtain ⟨n4, e4, _, f4⟩ := DataW.trod_int Try.underlying2 t4
    obtain ⟨n5, e5, _⟩ := DataW.trod_bool Try.underlying4 t5
    simp at e0 e1 e2 e3 e4 e5
    subst e0 e1 e2 e3 e4 e5
    have hI : I64s [n0, n1, n2, n3, n4] := fun z hz => by
      simp only [List.mem_cons, List.not_mem_nil, or_false] at hz
      rcases hz with rfl | rfl | rfl | rfl | rfl
      · exact bounds f0
      · exact bounds f1
      · exact bounds f2
      · exact bounds f3
      · exact bounds f4
    exact ⟨⟨[n0, n1, n2, n3, n4], n5⟩, rfl, ⟨rfl, hI⟩⟩
theorem bk_cells {fuel : Nat} {cs : List Value} {x : DataW H × List MemPlace} (hf : DataW.trod enc Try.prog W 0 (fun _ => true) true fuel 59 cs = some x) : ∃ l : List Int, cs = i12 l ∧ l.length = 12 ∧ I64s l := by
  obtain ⟨ys, kk, _, _, hlen, hyl, hfl⟩ := DataW.trod_struct Try.underlying59 hf
  have cB : Try.prog.cellsOf 59 = 12 := by kernel_rfl
  have cN : Try.prog.cellsOf 57 = 12 := by kernel_rfl
  have cI : Try.prog.cellsOf 2 = 1 := by kernel_rfl
  rw [cB] at hlen
  have t0 := hfl 0 _ rfl
  simp [cN] at t0
  rw [List.take_of_length_le (by omega)] at t0
  match ys, hyl with
  | [y0], _ =>
    obtain ⟨xs, m, _, _, _, hn, hg⟩ := DataW.trod_array Try.underlying57 t0
    simp only [cI, Nat.mul_one] at hg
    have key : ∀ i, i < 12 → ∃ n : Int, cs[i]? = some (.int .i64 n) ∧ -9223372036854775808 ≤ n ∧ n ≤ 9223372036854775807 := fun i hi => by
      have f0 := hg i hi
      rw [List.getElem?_eq_getElem (by omega)] at f0
      obtain ⟨n, hc, _, hw⟩ := DataW.trod_int Try.underlying2 f0
      exact ⟨n, take_one hc, bounds hw⟩
    have vint : ∀ v ∈ cs, ∃ n : Int, v = .int .i64 n ∧ -9223372036854775808 ≤ n ∧ n ≤ 9223372036854775807 := fun v hv => by
      obtain ⟨i, hi, e⟩ := List.getElem_of_mem hv
      obtain ⟨n, h1, h2⟩ := key i (by omega)
      rw [List.getElem?_eq_getElem hi, e] at h1
      exact ⟨n, Option.some.inj h1, h2⟩
    have ex : ∀ cs : List Value, (∀ v ∈ cs, ∃ n : Int, v = .int .i64 n ∧ -9223372036854775808 ≤ n ∧ n ≤ 9223372036854775807) → ∃ l : List Int, cs = l.map (Value.int .i64) ∧ I64s l := by
      intro cs
      induction cs with
      | nil => intro _; exact ⟨[], rfl, fun x hx => by cases hx⟩
      | cons v r ih =>
        intro h
        obtain ⟨n, rfl, hn⟩ := h v (by simp)
        obtain ⟨l, rfl, hl⟩ := ih (fun v hv => h v (by simp [hv]))
        exact ⟨n :: l, rfl, fun m hm => (List.mem_cons.1 hm).elim (fun e => by rw [e]; exact hn) (hl m)⟩
    obtain ⟨l, rfl, hl⟩ := ex cs vint
    rw [List.length_map] at hlen
    refine ⟨l, ?_, hlen, hl⟩
    match l, hlen with
    | [a0, a1, a2, a3, a4, a5, a6, a7, a8, a9, a10, a11], _ => rfl

/-- A slice of structs that came in. -/
theorem structs_open {α : Type} {t e : TypeId} {K : Nat} (x0 : α) (El : α → List Value → DataW H → Prop) (ht : Try.prog.underlying t = some (.slice e)) (ce : Try.prog.cellsOf e = K) (hK : 0 < K)
    (el : ∀ fuel l y, DataW.trod enc Try.prog W 0 (fun _ => true) true fuel e l = some y → ∃ x, El x l y.1) {fuel : Nat} {v : Value} {y : DataW H × List MemPlace} (hf : DataW.trod enc Try.prog W 0 (fun _ => true) true fuel t [v] = some y) :
    ∃ (xs : List α) (cs : List (List Value)) (ds : List (DataW H)), cs.length = xs.length ∧ ds.length = xs.length ∧ RdS K W v cs ∧ (∀ i, i < xs.length → El (xs.getD i x0) (cs.getD i []) (ds.getD i .nil)) ∧ Rows.uptoBulkAll ds + 1 ≤ Rows.uptoBulk y.1 := by
  rcases Go.Deep.open_slice ht hf with ⟨hcs, hy⟩ | ⟨a, len, cap, m, q, D, Pl, hcs, _, hle, hm, hmm, hd, hx⟩
  · injection hcs with hcs _
    subst hcs
    exact ⟨[], [], [], rfl, rfl, ⟨none, 0, rfl, Nat.le_refl _, fun _ => rfl, fun i hi => by simp at hi⟩, (fun i hi => by simp at hi), by rw [hy]; simp [Rows.uptoBulkAll, Rows.uptoBulk]⟩
  · injection hcs with hcs _
    subst hcs
    simp only [if_true] at hmm
    rw [ce] at hx
    have hy1 : y.1 = .slice ((List.range len).map D) ((List.range (m - len)).map fun j => D (len + j)) := by rw [hd]
    obtain ⟨b, off, spot⟩ := a
    have fin : Rows.uptoBulkAll ((List.range len).map D) + 1 ≤ Rows.uptoBulk y.1 := by rw [hy1]; simp only [Rows.uptoBulk]; omega
    by_cases h0 : len = 0
    · subst h0
      exact ⟨[], [], [], rfl, rfl, ⟨_, cap, rfl, Nat.zero_le _, (fun h => by cases h), fun i hi => by simp at hi⟩, (fun i hi => by simp at hi), by simpa using fin⟩
    have hspot : spot = none := by
      obtain ⟨cs', g1, _⟩ := hx 0 (by omega)
      obtain ⟨_, hlen, hcell⟩ := World.cells?_some g1
      have := hcell 0 (by omega)
      rw [List.getElem?_eq_getElem (by omega)] at this
      simpa [Addr.add] using World.cell?_spot this
    subst hspot
    have key : ∀ i, ∃ p : α × List Value, i < len → El p.1 p.2 (D i) ∧ b < W.heap.size ∧ W.rangeAt b (off + i * K) p.2 := fun i => by
      by_cases hi : i < len
      · obtain ⟨cs', g1, g2⟩ := hx i (by omega)
        obtain ⟨_, hlen, hcell⟩ := World.cells?_some g1
        obtain ⟨x, ex⟩ := el _ _ _ g2
        have r : W.rangeAt b (off + i * K) cs' := fun j u hj => by
          have hj3 : j < K := by have := (List.getElem?_eq_some_iff.1 hj).1; omega
          have := hcell j hj3
          rw [addr_add, addr_add] at this
          rw [this]; exact hj
        refine ⟨(x, cs'), fun _ => ⟨ex, ?_, r⟩⟩
        have c0 := r 0 _ (List.getElem?_eq_getElem (by omega))
        exact World.block_lt_of_cell? W _ c0
      · exact ⟨(x0, []), fun h => absurd h hi⟩
    let f := fun i => Classical.choose (key i)
    have hf2 : ∀ i, i < len → El (f i).1 (f i).2 (D i) ∧ b < W.heap.size ∧ W.rangeAt b (off + i * K) (f i).2 := fun i => Classical.choose_spec (key i)
    have gx : ∀ {β : Type} (g : Nat → β) (z : β) i, i < len → ((List.range len).map g).getD i z = g i := fun g z i hi => by simp [List.getD_eq_getElem?_getD, hi]
    refine ⟨(List.range len).map fun i => (f i).1, (List.range len).map fun i => (f i).2, (List.range len).map D, by simp, by simp, ⟨some ⟨b, off, none⟩, cap, by simp, by simpa using hle, (fun h => by cases h), fun i hi => ?_⟩, fun i hi => ?_, fin⟩
    · have hin : i < len := by simpa using hi
      rw [gx _ _ i hin]
      obtain ⟨_, k1, k2⟩ := hf2 i hin
      exact ⟨b, off, rfl, k1, k2⟩
    · have hin : i < len := by simpa using hi
      rw [gx _ _ i hin, gx _ _ i hin, gx _ _ i hin]
      exact (hf2 i hin).1
theorem map_of {α : Type} {x0 : α} {f : α → List Value} {xs : List α} {cs : List (List Value)} (hl : cs.length = xs.length) (h : ∀ i, i < xs.length → cs.getD i [] = f (xs.getD i x0)) : cs = xs.map f := by
  apply List.ext_getElem (by simpa using hl)
  intro i h1 h2
  have := h i (by omega)
  rw [getD_at h1, getD_at (by omega)] at this
  rw [this, List.getElem_map]
theorem all_of {α : Type} {x0 : α} {p : α → Prop} {xs : List α} (h : ∀ i, i < xs.length → p (xs.getD i x0)) : ∀ x ∈ xs, p x := fun x hx => by
  obtain ⟨i, hi, rfl⟩ := List.getElem_of_mem hx
  have := h i hi
  rwa [getD_at hi] at this
theorem plan_open {fuel : Nat} {v : Value} {y : DataW H × List MemPlace} (hf : DataW.trod enc Try.prog W 0 (fun _ => true) true fuel 56 [v] = some y) : ∃ is : List Ins, RdS 4 W v (is.map insL) ∧ (∀ i ∈ is, i.Ok) ∧ is.length + 1 ≤ Rows.uptoBulk y.1 := by
  obtain ⟨xs, cs, ds, h1, h2, h3, h4, h5⟩ := structs_open (K := 4) (⟨0, 0, 0, false⟩ : Ins) (fun i l _ => l = insL i ∧ i.Ok) Try.underlying56 (by kernel_rfl) (by decide) (fun fuel l y h => ins_cells h) hf
  have e := map_of (f := insL) h1 (fun i hi => (h4 i hi).1)
  refine ⟨xs, by rw [← e]; exact h3, all_of (x0 := ⟨0, 0, 0, false⟩) (fun i hi => (h4 i hi).2), ?_⟩
  have := bulk_len ds
  omega
theorem notes_open {fuel : Nat} {v : Value} {y : DataW H × List MemPlace} (hf : DataW.trod enc Try.prog W 0 (fun _ => true) true fuel 30 [v] = some y) : ∃ ns : List Nt, RdS 6 W v (ns.map ntL) ∧ (∀ n ∈ ns, n.Ok) ∧ ns.length + 1 ≤ Rows.uptoBulk y.1 := by
  obtain ⟨xs, cs, ds, h1, h2, h3, h4, h5⟩ := structs_open (K := 6) nt0 (fun i l _ => l = ntL i ∧ i.Ok) Try.underlying30 (by kernel_rfl) (by decide) (fun fuel l y h => nt_cells h) hf
  have e := map_of (f := ntL) h1 (fun i hi => (h4 i hi).1)
  refine ⟨xs, by rw [← e]; exact h3, all_of (x0 := nt0) (fun i hi => (h4 i hi).2), ?_⟩
  have := bulk_len ds
  omega
def LnEl (W : World) (l : Ln) (cs : List Value) (d : DataW H) : Prop := ∃ pv, cs = lnL l pv ∧ l.Ok ∧ RdS 4 W pv (l.pl.map insL) ∧ l.pl.length + 1 ≤ Rows.uptoBulk d
set_option maxRecDepth 100000 in
set_option maxHeartbeats 2000000 in
theorem ln_cells {fuel : Nat} {l : List Value} {x : DataW H × List MemPlace} (hf : DataW.trod enc Try.prog W 0 (fun _ => true) true fuel 65 l = some x) : ∃ k : Ln, LnEl W k l x.1 := by
  obtain ⟨ys, kk, hkk, hdd, hlen, hyl, hfl⟩ := DataW.trod_struct Try.underlying65 hf
  have cT : Try.prog.cellsOf 65 = 46 := by kernel_rfl
  have c0 : Try.prog.cellsOf 56 = 1 := by kernel_rfl
  have c1 : Try.prog.cellsOf 59 = 12 := by kernel_rfl
  have c2 : Try.prog.cellsOf 61 = 15 := by kernel_rfl
  have c3 : Try.prog.cellsOf 63 = 5 := by kernel_rfl
  have c4 : Try.prog.cellsOf 55 = 6 := by kernel_rfl
  have c5 : Try.prog.cellsOf 4 = 1 := by kernel_rfl
  have c6 : Try.prog.cellsOf 3 = 1 := by kernel_rfl
  have c7 : Try.prog.cellsOf 2 = 1 := by kernel_rfl
  rw [cT] at hlen
  match ys, hyl with
  | [y0, y1, y2, y3, y4, y5, y6, y7, y8, y9, y10, y11], _ =>
    have t0 : DataW.trod enc Try.prog W 0 (fun _ => true) true kk 3 ((l.drop 0).take 1) = some y0 := by simpa [c6] using hfl 0 _ rfl
    have t1 : DataW.trod enc Try.prog W 0 (fun _ => true) true kk 55 ((l.drop 1).take 6) = some y1 := by simpa [c4] using hfl 1 _ rfl
    have t2 : DataW.trod enc Try.prog W 0 (fun _ => true) true kk 56 ((l.drop 7).take 1) = some y2 := by simpa [c0] using hfl 2 _ rfl
    have t3 : DataW.trod enc Try.prog W 0 (fun _ => true) true kk 59 ((l.drop 8).take 12) = some y3 := by simpa [c1] using hfl 3 _ rfl
    have t4 : DataW.trod enc Try.prog W 0 (fun _ => true) true kk 61 ((l.drop 20).take 15) = some y4 := by simpa [c2] using hfl 4 _ rfl
    have t5 : DataW.trod enc Try.prog W 0 (fun _ => true) true kk 3 ((l.drop 35).take 1) = some y5 := by simpa [c6] using hfl 5 _ rfl
    have t6 : DataW.trod enc Try.prog W 0 (fun _ => true) true kk 2 ((l.drop 36).take 1) = some y6 := by simpa [c7] using hfl 6 _ rfl
    have t7 : DataW.trod enc Try.prog W 0 (fun _ => true) true kk 2 ((l.drop 37).take 1) = some y7 := by simpa [c7] using hfl 7 _ rfl
    have t8 : DataW.trod enc Try.prog W 0 (fun _ => true) true kk 63 ((l.drop 38).take 5) = some y8 := by simpa [c3] using hfl 8 _ rfl
    have t9 : DataW.trod enc Try.prog W 0 (fun _ => true) true kk 4 ((l.drop 43).take 1) = some y9 := by simpa [c5] using hfl 9 _ rfl
    have t10 : DataW.trod enc Try.prog W 0 (fun _ => true) true kk 2 ((l.drop 44).take 1) = some y10 := by simpa [c7] using hfl 10 _ rfl
    have t11 : DataW.trod enc Try.prog W 0 (fun _ => true) true kk 3 ((l.drop 45).take 1) = some y11 := by simpa [c6] using hfl 11 _ rfl
    obtain ⟨v7, h7⟩ : ∃ v, (l.drop 7).take 1 = [v] := by rw [List.drop_eq_getElem_cons (by omega)]; exact ⟨_, rfl⟩
    rw [h7] at t2
    obtain ⟨n0, e0, _, f0⟩ := DataW.trod_int Try.underlying3 t0
    obtain ⟨tm, etm, ltm, htm⟩ := tm_cells t1
    obtain ⟨is, ris, ois, bis⟩ := plan_open t2
    obtain ⟨bk, ebk, lbk, hbk⟩ := bk_cells t3
    obtain ⟨st, su, cs, ecs, hst, lcs, hcs⟩ := cs_cells t4
    obtain ⟨n5, e5, _, f5⟩ := DataW.trod_int Try.underlying3 t5
    obtain ⟨n6, e6, _, f6⟩ := DataW.trod_int Try.underlying2 t6
    obtain ⟨n7, e7, _, f7⟩ := DataW.trod_int Try.underlying2 t7
    obtain ⟨la, ela, lla, hla⟩ := pa_cells t8
    obtain ⟨n9, e9, _⟩ := DataW.trod_bool Try.underlying4 t9
    obtain ⟨n10, e10, _, f10⟩ := DataW.trod_int Try.underlying2 t10
    obtain ⟨n11, e11, _, f11⟩ := DataW.trod_int Try.underlying3 t11
    have ch : ∀ a n, l.drop a = (l.drop a).take n ++ l.drop (a + n) := fun a n => by rw [← List.drop_drop, List.take_append_drop]
    have s0 := ch 0 1
    rw [e0] at s0
    have s1 := ch 1 6
    rw [etm] at s1
    have s2 := ch 7 1
    rw [h7] at s2
    have s3 := ch 8 12
    rw [ebk] at s3
    have s4 := ch 20 15
    rw [ecs] at s4
    have s5 := ch 35 1
    rw [e5] at s5
    have s6 := ch 36 1
    rw [e6] at s6
    have s7 := ch 37 1
    rw [e7] at s7
    have s8 := ch 38 5
    rw [ela] at s8
    have s9 := ch 43 1
    rw [e9] at s9
    have s10 := ch 44 1
    rw [e10] at s10
    have s11 := ch 45 1
    rw [e11] at s11
    have z : l.drop 46 = [] := List.drop_of_length_le (by omega)
    have ed : x.1 = DataW.agg ([y0, y1, y2, y3, y4, y5, y6, y7, y8, y9, y10, y11].map (·.1)) := congrArg Prod.fst hdd
    refine ⟨⟨n0, tm, is, bk, st, su, cs, [n5, n6, n7], la, n9, [n10, n11]⟩, v7, ?_, ⟨fun z hz => by simp at hz; rw [hz]; exact bounds f0, ltm, htm, ois, lbk, hbk, hst, lcs, hcs, rfl, fun z hz => by simp at hz; rcases hz with rfl | rfl | rfl; exact bounds f5; exact bounds f6; exact bounds f7, lla, hla, rfl, fun z hz => by simp at hz; rcases hz with rfl | rfl; exact bounds f10; exact bounds f11⟩, ris, ?_⟩
    · have e := s0.trans (congrArg _ (s1.trans (congrArg _ (s2.trans (congrArg _ (s3.trans (congrArg _ (s4.trans (congrArg _ (s5.trans (congrArg _ (s6.trans (congrArg _ (s7.trans (congrArg _ (s8.trans (congrArg _ (s9.trans (congrArg _ (s10.trans (congrArg _ (s11.trans (congrArg _ z)))))))))))))))))))))))
      rw [List.drop_zero] at e
      exact e
    · rw [ed]
      simp only [Rows.uptoBulk, List.map_cons, List.map_nil, Rows.uptoBulkAll]
      show is.length + 1 ≤ _
      omega
theorem sum_bulk {α : Type} {x0 : α} {wt : α → Nat} : ∀ {xs : List α} {ds : List (DataW H)}, ds.length = xs.length → (∀ i, i < xs.length → wt (xs.getD i x0) ≤ Rows.uptoBulk (ds.getD i .nil)) → (xs.map wt).sum ≤ Rows.uptoBulkAll ds
  | [], [], _, _ => by simp
  | x :: xs, d :: ds, hl, h => by
    have h0 := h 0 (by simp)
    have ih := sum_bulk (x0 := x0) (xs := xs) (ds := ds) (by simpa using hl) (fun i hi => by simpa using h (i + 1) (by simpa using hi))
    simp at h0
    simp only [List.map_cons, List.sum_cons, Rows.uptoBulkAll]
    omega
  | [], _ :: _, hl, _ => by simp at hl
  | _ :: _, [], hl, _ => by simp at hl
theorem loans_open {fuel : Nat} {v : Value} {y : DataW H × List MemPlace} (hf : DataW.trod enc Try.prog W 0 (fun _ => true) true fuel 29 [v] = some y) : ∃ ls : List Ln, RdLs W v ls ∧ (∀ l ∈ ls, l.Ok) ∧ (ls.map fun l => l.pl.length + 1).sum + 1 ≤ Rows.uptoBulk y.1 := by
  obtain ⟨xs, cs, ds, h1, h2, h3, h4, h5⟩ := structs_open (K := 46) ln0 (LnEl W) Try.underlying29 (by kernel_rfl) (by decide) (fun fuel l y h => ln_cells h) hf
  have key : ∀ i, ∃ pv, i < xs.length → cs.getD i [] = lnL (xs.getD i ln0) pv ∧ RdS 4 W pv ((xs.getD i ln0).pl.map insL) := fun i => by
    by_cases hi : i < xs.length
    · obtain ⟨pv, e, _, r, _⟩ := h4 i hi
      exact ⟨pv, fun _ => ⟨e, r⟩⟩
    · exact ⟨.nilFunc, fun h => absurd h hi⟩
  let f := fun i => Classical.choose (key i)
  have hf2 : ∀ i, i < xs.length → cs.getD i [] = lnL (xs.getD i ln0) (f i) ∧ RdS 4 W (f i) ((xs.getD i ln0).pl.map insL) := fun i => Classical.choose_spec (key i)
  have gx : ∀ i, i < xs.length → ((List.range xs.length).map f).getD i .nilFunc = f i := fun i hi => by simp [List.getD_eq_getElem?_getD, hi]
  have e : cs = List.zipWith lnL xs ((List.range xs.length).map f) := by
    apply List.ext_getElem (by simp [h1])
    intro i a1 a2
    have hi : i < xs.length := by omega
    have := (hf2 i hi).1
    rw [getD_at a1, getD_at hi] at this
    rw [this, List.getElem_zipWith]
    simp
  refine ⟨xs, ⟨(List.range xs.length).map f, by simp, by rw [← e]; exact h3, fun i hi => by rw [gx i hi]; exact (hf2 i hi).2⟩, all_of (x0 := ln0) (fun i hi => by obtain ⟨_, _, o, _⟩ := h4 i hi; exact o), ?_⟩
  have := sum_bulk (x0 := ln0) (wt := fun l => l.pl.length + 1) h2 (fun i hi => by obtain ⟨_, _, _, _, b⟩ := h4 i hi; exact b)
  omega
theorem lnB_len {l : Ln} (ok : l.Ok) (hp : l.pl.length ≤ 1048576) : (lnB l).length ≤ 460 * (l.pl.length + 1) := by
  have a0 := putI_len l.id (ok.id _ (by simp))
  have a1 := putFs_le ok.tm ok.tmL
  have a2 := putFs_le ok.bk ok.bkL
  have a3 := putI_len l.st (ok.st _ (by simp))
  have a4 := putFs_le ok.cs ok.csL
  have a5 := putFs_le ok.d3 ok.d3L
  have a6 := putFs_le ok.la ok.laL
  have a7 := putFs_le ok.c2 ok.c2L
  have b1 := putB_len l.su
  have b2 := putB_len l.hl
  have p1 := put_len10 l.pl.length (by omega)
  have p2 : ∀ is : List Ins, (∀ i ∈ is, i.Ok) → (is.flatMap insB).length ≤ 31 * is.length := by
    intro is
    induction is with
    | nil => intro _; simp
    | cons i r ih =>
      intro h
      have h1 := putFs_le (n := 3) (h i (by simp)).f rfl
      have h2 := putB_len i.mr
      have h3 := ih (fun j hj => h j (by simp [hj]))
      simp only [List.flatMap_cons, List.length_append, List.length_cons, insB]
      omega
  have p3 := p2 l.pl ok.pl
  unfold lnB csB plB
  simp only [List.length_append]
  omega
theorem poB_len {p : Po} (ok : p.Ok) (hs : (p.ls.map fun l => l.pl.length + 1).sum ≤ 1048576) (hn : p.ns.length ≤ 1048576) : PoB p := by
  have s1 : ∀ ls : List Ln, ls.length ≤ (ls.map fun l => l.pl.length + 1).sum := by
    intro ls
    induction ls with
    | nil => simp
    | cons l r ih => simp only [List.length_cons, List.map_cons, List.sum_cons]; omega
  have s2 : ∀ ls : List Ln, ∀ l ∈ ls, l.pl.length + 1 ≤ (ls.map fun l => l.pl.length + 1).sum := by
    intro ls
    induction ls with
    | nil => intro l h; cases h
    | cons x r ih =>
      intro l h
      simp only [List.map_cons, List.sum_cons]
      rcases List.mem_cons.1 h with rfl | h
      · omega
      · have := ih l h; omega
  have s3 : ∀ ls : List Ln, (∀ l ∈ ls, l.Ok) → (∀ l ∈ ls, l.pl.length ≤ 1048576) → (ls.flatMap lnB).length ≤ 460 * (ls.map fun l => l.pl.length + 1).sum := by
    intro ls
    induction ls with
    | nil => intro _ _; simp
    | cons x r ih =>
      intro h1 h2
      have a := lnB_len (h1 x (by simp)) (h2 x (by simp))
      have b := ih (fun l hl => h1 l (by simp [hl])) (fun l hl => h2 l (by simp [hl]))
      simp only [List.flatMap_cons, List.length_append, List.map_cons, List.sum_cons]
      omega
  have s4 : ∀ ns : List Nt, (∀ n ∈ ns, n.Ok) → (ns.flatMap owB).length ≤ 51 * ns.length := by
    intro ns
    induction ns with
    | nil => intro _; simp
    | cons x r ih =>
      intro h1
      have a := putFs_le (h1 x (by simp)).f (h1 x (by simp)).fL
      have a2 := putB_len x.ak
      have b := ih (fun l hl => h1 l (by simp [hl]))
      simp only [List.flatMap_cons, List.length_append, List.length_cons, owB, ntB]
      omega
  have b1 := s1 p.ls
  have b2 := s2 p.ls
  have b3 := s3 p.ls ok.ls (fun l hl => by have := b2 l hl; omega)
  have b4 := s4 p.ns ok.ns
  have a0 := putI_len p.td (ok.td _ (by simp))
  have p1 := put_len10 p.ls.length (by omega)
  have p2 := put_len10 p.ns.length (by omega)
  refine ⟨by omega, by omega, fun l hl => by have := b2 l hl; omega, ?_⟩
  unfold poB
  simp only [List.length_append]
  omega
set_option maxRecDepth 100000 in
theorem po_open {base : Nat} {v : Value} {d : DataW H} {ps : List MemPlace}
    (hval : Value.okWide Try.prog W .any base 32 v) (hd : DataW.Trod enc Try.prog W 0 (fun _ => true) true 32 v d ps) (hk : Rows.uptoBulk d ≤ 1048576) :
    ∃ (p : Po) (vl vn : Value), v = .agg #[.int .i64 p.td, vl, vn] ∧ p.Ok ∧ PoB p ∧ RdPo W vl vn p := by
  have HK : Hid (Rows.uptoBulk d ≤ 1048576) := hk
  clear hk
  obtain ⟨cs, rfl, hs⟩ := okWide_struct Try.underlying32 hval
  obtain ⟨fuel, hf⟩ := hd
  obtain ⟨ys, kk, hkk, hdd, hlen, hyl, hfl⟩ := DataW.trod_struct Try.underlying32 hf
  have cI : Try.prog.cellsOf 3 = 1 := by kernel_rfl
  have cL : Try.prog.cellsOf 29 = 1 := by kernel_rfl
  have cN : Try.prog.cellsOf 30 = 1 := by kernel_rfl
  have cT : Try.prog.cellsOf 32 = 3 := by kernel_rfl
  rw [cT] at hs
  obtain ⟨l⟩ := cs
  simp at hs
  simp only [Value.cells] at hfl
  match ys, hyl, l, hs with
  | [y0, y1, y2], _, [v0, v1, v2], _ =>
    have t0 := hfl 0 _ rfl
    have t1 := hfl 1 _ rfl
    have t2 := hfl 2 _ rfl
    simp [cI, cL, cN] at t0 t1 t2
    have ed := (Prod.mk.inj hdd).1
    obtain ⟨n0, e0, _, f0⟩ := DataW.trod_int Try.underlying3 t0
    obtain ⟨ls, rl, ol, bl⟩ := loans_open t1
    obtain ⟨ns, rn, on, bn⟩ := notes_open t2
    simp at e0
    subst e0
    have hb := HK.out
    rw [ed] at hb
    simp only [Rows.uptoBulk, List.map_cons, List.map_nil, Rows.uptoBulkAll] at hb
    have ok : (⟨n0, ls, ns⟩ : Po).Ok := ⟨fun z hz => by simp at hz; rw [hz]; exact bounds f0, ol, on⟩
    exact ⟨⟨n0, ls, ns⟩, v1, v2, rfl, ok, poB_len ok (by show (ls.map _).sum ≤ _; omega) (by show ns.length ≤ _; omega), ⟨rl, rn⟩⟩
set_option maxRecDepth 100000 in
theorem nt_open {base : Nat} {v : Value} {d : DataW H} {ps : List MemPlace}
    (hval : Value.okWide Try.prog W .any base 28 v) (hd : DataW.Trod enc Try.prog W 0 (fun _ => true) true 28 v d ps) : ∃ n : Nt, v = .agg (ntL n).toArray ∧ n.Ok := by
  obtain ⟨cs, rfl, hs⟩ := okWide_struct Try.underlying28 hval
  obtain ⟨fuel, hf⟩ := hd
  obtain ⟨l⟩ := cs
  simp only [Value.cells] at hf
  obtain ⟨n, e, ok⟩ := nt_cells hf
  exact ⟨n, by rw [← e], ok⟩
end
end Go.Proofs.Ytdbjjeaflfoppaa
