/-
  Ours: rows of rows of bytes: of a call's own, as they read; the bytes from a place on.
-/
import Derived.Test.YtkjnklagjhhhkaaDskOwn
import Derived.Lib.SliceRun
namespace Go.Proofs.Ytkjnklagjhhhkaa
open Go.RowKit

theorem Rd.tail {w : World} {ao : Option Addr} {n c : Nat} {vs : List Value} (h : Rd w (.slice ao n c) vs) {k : Nat} (hk : k ≤ n) {ad : Option Addr} (ha : ∀ g o, ao = some ⟨g, o, none⟩ → k < n → ad = some ⟨g, o + k, none⟩) (hn : ad = none → c - k = 0) : Rd w (.slice ad (n - k) (c - k)) (vs.drop k) := by
  obtain ⟨ao', c', e, h1, h2, H⟩ := h
  injection e with e1 e2 e3
  subst e1 e2 e3
  have hl : (vs.drop k).length = vs.length - k := List.length_drop ..
  refine ⟨ad, c - k, by rw [hl], by omega, hn, fun i hi => ?_⟩
  rw [hl] at hi
  obtain ⟨g, o, e1, lt, e2⟩ := H (k + i) (by omega)
  refine ⟨g, o + k, ha g o e1 (by omega), lt, ?_⟩
  rw [Nat.add_assoc, e2]
  simp
theorem infoS : (Try.prog.info? 22).map (fun i => (i.zero, i.size, i.bytes)) = some (some (.slice none 0 0), 1, 24) := by kernel_rfl
theorem underS : Try.prog.underlying 24 = some (.slice 22) := by kernel_rfl
theorem rows_ne {e e' : TypeId} {base base' : Nat} {w : World} {v v' : Value} {xs ys : List Value} (h : RowV e base w v xs) (h' : RowV e' base' w v' ys) (hne : e ≠ e') {g : Nat} (hg : v.ownBlock = some g) : v'.ownBlock ≠ some g := by
  intro hg'
  rcases h.2 with ⟨rfl, _⟩ | ⟨g1, cap, cur, rfl, _, hh, _⟩
  · simp [Value.ownBlock] at hg
  rcases h'.2 with ⟨rfl, _⟩ | ⟨g2, cap', cur', rfl, _, hh', _⟩
  · simp [Value.ownBlock] at hg'
  obtain rfl : g1 = g := by simpa [Value.ownBlock] using hg
  obtain rfl : g2 = g1 := by simpa [Value.ownBlock] using hg'
  rw [hh] at hh'
  injection hh' with hh'
  injection hh' with h1 h2
  exact hne h2
/-- A row of rows of bytes, all in memory of the call's own, apart from one another. -/
structure RowsV (base : Nat) (w : World) (v : Value) (ps : List (List Nat)) : Prop where
  row : ∃ vs : List Value, RowV 22 base w v vs ∧ vs.length = ps.length ∧ (∀ x ∈ vs.zip ps, RowB 5 base w x.1 x.2) ∧ vs.Pairwise (fun a b => ∀ g, a.ownBlock = some g → b.ownBlock ≠ some g)
theorem RowsV.later {base : Nat} {w w' : World} {v : Value} {ps : List (List Nat)} (h : RowsV base w v ps) (hb : Below w.heap.size w w') : RowsV base w' v ps := by
  obtain ⟨vs, h1, h2, h3, h4⟩ := h.row
  exact ⟨vs, RowV.later h1 hb, h2, fun x hx => RowV.later (h3 x hx) hb, h4⟩
/-- The bytes from a place on, as the language slices them. -/
theorem RdB.from {w : World} {ao : Option Addr} {cap A : Nat} {bs : List Nat} (h : RdB w (.slice ao bs.length cap) bs) (hA : A ≤ bs.length) : RdB w (.slice (if A = cap then ao else ao.map (fun x => x.add A)) (bs.length - A) (cap - A)) (bs.drop A) := by
  obtain ⟨ao', cap', e, hcap, hnil⟩ := h.len
  injection e with e1 e2 e3
  subst e1 e3
  rw [List.length_map] at hcap
  have tail : ∀ ad : Option Addr, (A < bs.length → ad = ao.map (fun x => x.add A)) → (ad = none → cap - A = 0) → RdB w (.slice ad (bs.length - A) (cap - A)) (bs.drop A) := fun ad h1 h2 => by
    have r := Rd.tail (k := A) (ad := ad) h hA (fun g o e hk => by rw [h1 hk, e]; simp [Addr.add_lit]) h2
    rw [← List.map_drop] at r
    exact r
  by_cases hc : A = cap
  · rw [if_pos hc]
    exact tail ao (fun hk => by omega) (fun _ => by omega)
  · rw [if_neg hc]
    refine tail _ (fun _ => rfl) (fun e => ?_)
    cases ao with
    | none => have := hnil rfl; omega
    | some ad => cases e
theorem RowsV.kp {base : Nat} {w w' : World} {v : Value} {ps : List (List Nat)} {M : Nat → Prop} (h : RowsV base w v ps) (k : Kp M w w') (hm : ∀ g, M g → g < base) : RowsV base w' v ps := by
  obtain ⟨vs, h1, h2, h3, h4⟩ := h.row
  exact ⟨vs, RowV.kp h1 k (fun g hg hM => by have := h1.block_ge hg; have := hm g hM; omega), h2, fun x hx => RowV.kp (h3 x hx) k (fun g hg hM => by have := (h3 x hx).block_ge hg; have := hm g hM; omega), h4⟩
theorem RowsV.mono {base base' : Nat} {w : World} {v : Value} {ps : List (List Nat)} (h : RowsV base w v ps) (hb : base' ≤ base) : RowsV base' w v ps := by
  obtain ⟨vs, h1, h2, h3, h4⟩ := h.row
  exact ⟨vs, h1.mono hb, h2, fun x hx => (h3 x hx).mono hb, h4⟩
/-- The slice value v reads as these byte strings. -/
def RdR (w : World) (v : Value) (cs : List (List Nat)) : Prop :=
  ∃ ao c, v = .slice ao cs.length c ∧ cs.length ≤ c ∧ ∀ i, i < cs.length → ∃ g o a' c', ao = some ⟨g, o, none⟩ ∧ g < w.heap.size ∧ w.cell? ⟨g, o + i, none⟩ = some (.slice a' (cs.getD i []).length c') ∧ RdB w (.slice a' (cs.getD i []).length c') (cs.getD i [])
theorem RdR.later {w w' : World} {v : Value} {cs : List (List Nat)} (h : RdR w v cs) (hb : Below w.heap.size w w') : RdR w' v cs := by
  obtain ⟨ao, c, e, h1, H⟩ := h
  refine ⟨ao, c, e, h1, fun i hi => ?_⟩
  obtain ⟨g, o, a', c', e1, lt, hc, hr⟩ := H i hi
  exact ⟨g, o, a', c', e1, Nat.lt_of_lt_of_le lt hb.size, (hb.cell (p := ⟨g, o + i, none⟩) lt).trans hc, Rd.later hr hb⟩
theorem RdR.drewN {w : World} {v : Value} {cs : List (List Nat)} (h : RdR w v cs) (n : Nat) : RdR (w.drewN n) v cs := h
theorem RdR.len {w : World} {v : Value} {cs : List (List Nat)} (h : RdR w v cs) : ∃ ao c, v = .slice ao cs.length c ∧ cs.length ≤ c := by obtain ⟨ao, c, e, h1, _⟩ := h; exact ⟨ao, c, e, h1⟩
theorem RdR.at {w : World} {ao : Option Addr} {n c : Nat} {cs : List (List Nat)} (h : RdR w (.slice ao n c) cs) : n = cs.length ∧ n ≤ c ∧ ∀ i, i < n → ∃ g o a' c', ao = some ⟨g, o, none⟩ ∧ w.cell? ⟨g, o + i, none⟩ = some (.slice a' (cs.getD i []).length c') ∧ RdB w (.slice a' (cs.getD i []).length c') (cs.getD i []) := by
  obtain ⟨ao', c', e, h1, H⟩ := h
  injection e with e1 e2 e3
  subst e1 e2 e3
  refine ⟨rfl, h1, fun i hi => ?_⟩
  obtain ⟨g, o, a', c', e1, _, hc, hr⟩ := H i hi
  exact ⟨g, o, a', c', e1, hc, hr⟩
theorem RdR.cut {w : World} {ao : Option Addr} {n c : Nat} {cs : List (List Nat)} (h : RdR w (.slice ao n c) cs) {k : Nat} (hk : k ≤ n) : RdR w (.slice ao k c) (cs.take k) := by
  obtain ⟨ao', c', e, h1, H⟩ := h
  injection e with e1 e2 e3
  subst e1 e2 e3
  have ll : (cs.take k).length = k := by rw [List.length_take]; omega
  refine ⟨ao, c, by rw [ll], by omega, fun i hi => ?_⟩
  rw [ll] at hi
  obtain ⟨g, o, a', c', e1, lt, hc, hr⟩ := H i (by omega)
  have e : (cs.take k).getD i [] = cs.getD i [] := by simp only [List.getD_eq_getElem?_getD, List.getElem?_take, if_pos hi]
  rw [e]
  exact ⟨g, o, a', c', e1, lt, hc, hr⟩
theorem RdR.tail {w : World} {ao : Option Addr} {n c : Nat} {cs : List (List Nat)} (h : RdR w (.slice ao n c) cs) {k : Nat} (hk : k ≤ n) {ad : Option Addr} (ha : ∀ g o, ao = some ⟨g, o, none⟩ → k < n → ad = some ⟨g, o + k, none⟩) : RdR w (.slice ad (n - k) (c - k)) (cs.drop k) := by
  obtain ⟨ao', c', e, h1, H⟩ := h
  injection e with e1 e2 e3
  subst e1 e2 e3
  have ll : (cs.drop k).length = cs.length - k := List.length_drop ..
  refine ⟨ad, c - k, by rw [ll], by omega, fun i hi => ?_⟩
  rw [ll] at hi
  obtain ⟨g, o, a', c', e1, lt, hc, hr⟩ := H (k + i) (by omega)
  have e : (cs.drop k).getD i [] = cs.getD (k + i) [] := by simp only [List.getD_eq_getElem?_getD, List.getElem?_drop]
  rw [e]
  exact ⟨g, o + k, a', c', ha g o e1 (by omega), lt, by rw [Nat.add_assoc]; exact hc, hr⟩
theorem RowsV.rd {base : Nat} {w : World} {v : Value} {ps : List (List Nat)} (h : RowsV base w v ps) : RdR w v ps := by
  obtain ⟨vs, h1, h2, h3, _⟩ := h.row
  obtain ⟨ao, cap, rfl, hc, _, H⟩ := RowV.rd h1
  refine ⟨ao, cap, by rw [h2], by omega, fun i hi => ?_⟩
  obtain ⟨g, o, e1, lt, e2⟩ := H i (by omega)
  have hm : (vs[i], ps[i]) ∈ vs.zip ps := by
    have : (vs.zip ps)[i]? = some (vs[i], ps[i]) := by rw [List.getElem?_zip_eq_some]; exact ⟨List.getElem?_eq_getElem _, List.getElem?_eq_getElem _⟩
    exact List.mem_of_getElem? this
  have hr := RowV.rd (h3 _ hm)
  have hg : ps.getD i [] = ps[i] := by rw [List.getD_eq_getElem?_getD, List.getElem?_eq_getElem hi]; rfl
  obtain ⟨a', c', e3, _⟩ := hr.len
  simp only [List.length_map] at e3
  refine ⟨g, o, a', c', e1, lt, ?_, ?_⟩
  · rw [e2, hg, e3]
  · rw [hg, ← e3]; exact hr
theorem take_next {α : Type} (cs : List (List α)) (k : Nat) (h : k < cs.length) : cs.take (k + 1) = cs.take k ++ [cs.getD k []] := by
  rw [List.take_add_one, List.getD_eq_getElem?_getD, List.getElem?_eq_getElem h]; rfl
theorem zip_mem {α β : Type} {vs : List α} {ps : List β} (hl : vs.length = ps.length) {y : α} (hy : y ∈ vs) : ∃ q, (y, q) ∈ vs.zip ps := by
  obtain ⟨i, hi, e⟩ := List.getElem_of_mem hy
  have : (vs.zip ps)[i]? = some (vs[i], ps[i]) := by rw [List.getElem?_zip_eq_some]; exact ⟨List.getElem?_eq_getElem _, List.getElem?_eq_getElem _⟩
  exact ⟨ps[i], by rw [← e]; exact List.mem_of_getElem? this⟩
/-- One row more. -/
theorem RowsV.push {base : Nat} {w1 w2 : World} {v v' x : Value} {vs : List Value} {ps : List (List Nat)} {p : List Nat} (hv : RowV 22 base w1 v vs) (hl : vs.length = ps.length) (hi : ∀ y ∈ vs.zip ps, RowB 5 base w1 y.1 y.2)
    (hp : vs.Pairwise (fun a b => ∀ g, a.ownBlock = some g → b.ownBlock ≠ some g)) (hx : RowB 5 base w1 x p) (ha : ∀ y ∈ vs, ∀ g, y.ownBlock = some g → x.ownBlock ≠ some g) (r : RowV 22 base w2 v' (vs ++ [x])) (g : w1.grownBy w2 v.ownBlock) : RowsV base w2 v' (ps ++ [p]) := by
  have keep : ∀ {y : Value} {q : List Nat}, RowB 5 base w1 y q → RowB 5 base w2 y q := fun hy => RowV.kept hy g (fun g' hg e => rows_ne hy hv (by decide) hg e)
  refine ⟨vs ++ [x], r, by simp [hl], fun y hy => ?_, ?_⟩
  · rw [List.zip_append hl] at hy
    rcases List.mem_append.1 hy with h | h
    · exact keep (hi y h)
    · simp at h; subst h; exact keep hx
  · rw [List.pairwise_append]
    refine ⟨hp, List.pairwise_singleton _ _, fun y hy z hz => ?_⟩
    simp at hz; subst hz
    exact ha y hy
theorem rowV_set {e : TypeId} {base : Nat} {w : World} {g n cap i : Nat} {vs : List Value} {u : Value} (hn : vs.length = n) (h : RowV e base w (.slice (some ⟨g, 0, none⟩) n cap) vs) :
    RowV e base (w.setCell ⟨g, i, none⟩ u) (.slice (some ⟨g, 0, none⟩) n cap) (vs.set i u) ∧ w.grownBy (w.setCell ⟨g, i, none⟩ u) (some g) := by
  subst hn
  obtain ⟨h1, h2⟩ := World.ownsRow.stored h i u
  refine ⟨?_, h2⟩
  rw [RowV, List.length_set]
  exact h1
theorem RowV.own {e : TypeId} {base : Nat} {w : World} {v : Value} {vs : List Value} (h : RowV e base w v vs) (h0 : 0 < vs.length) : ∃ g cap, v = .slice (some ⟨g, 0, none⟩) vs.length cap ∧ vs.length ≤ cap ∧
    (∀ i (hi : i < vs.length), w.cell? ⟨g, i, none⟩ = some vs[i]) ∧ ∀ i, w.frozen? ⟨g, i, none⟩ = false := by
  have hc := fun (g : Nat) (hg : v.ownBlock = some g) => World.ownsRow.cells h hg
  rcases h.2 with ⟨_, h0'⟩ | ⟨g, cap, cur, rfl, hb, hg, hn, hm, hs, ht⟩
  · omega
  · refine ⟨g, cap, rfl, hn, fun i hi => ?_, fun i => by simp [World.frozen?, hg]⟩
    have := hc g rfl i _ (List.getElem?_eq_getElem hi)
    rwa [show (⟨g, 0, none⟩ : Addr).add i = ⟨g, i, none⟩ by unfold Addr.add; split <;> simp_all] at this
theorem rowB_push {e : TypeId} {base : Nat} {w : World} {v : Value} {bs : List Nat} {c : Int} {d : Nat} (h : RowV e base w v (bs.map bv ++ [.int .u8 c])) (hc : c = (d : Int)) : RowB e base w v (bs ++ [d]) := by
  subst hc
  simpa [RowB, bv] using h
theorem map_set_bv (bs : List Nat) (i x : Nat) : (bs.map bv).set i (.int .u8 (x : Int)) = (bs.set i x).map bv := by rw [List.map_set]; rfl
theorem getD_bv {bs : List Nat} {i : Nat} (h : i < (bs.map bv).length) : (bs.map bv)[i] = .int .u8 ((bs.getD i 0 : Nat) : Int) := by
  rw [List.getElem_map, List.getD_eq_getElem?_getD, List.getElem?_eq_getElem (by simpa using h)]; rfl
set_option maxHeartbeats 600000 in
theorem clone_at (bs : List Nat) (v : Value) (w : World) (hl : bs.length ≤ 1000000000000) (h : RdB w v bs) : Calls Try.prog 10 #[v] w (NewB w bs) := by
  obtain ⟨i0, hi, hz0, hz1, hz2⟩ := info_parts infoB
  have hm : ∀ (w : World) (a : Option Addr) (n c : Nat), (binOp .eql 22 (.slice a n c) (.slice none 0 0)).run Try.prog w = .ok (.bool a.isNone) w := fun w a n c => Lib.run_eql_slice_nil w _ _ a n c 0 0 underB
  obtain ⟨ao, cap, rfl, hcap, hnil⟩ := h.len
  have hl0 : (bs.map bv).length = bs.length := List.length_map ..
  cases ao with
  | none =>
    have : bs = [] := List.eq_nil_of_length_eq_zero (by have := hnil rfl; omega)
    subst this
    obtain rfl := hnil rfl
    clear h
    go_enter Try.func10, Try.ntmps10
    go_wp2_with fail
    go_ret
    exact ⟨_, rfl, RowV.nil _ _ _, Below.refl _ _⟩
  | some ad =>
    have one := one_bv bs
    have l1 : ([] : List Value).length + (bs.map bv).length ≤ maxLen := by simp only [List.length_map, List.length_nil]; unfold maxLen; omega
    have l2 : (([] : List Value).length + (bs.map bv).length) * 1 ≤ 140737488355328 := by simp only [List.length_map, List.length_nil]; omega
    have own0 : RowV 5 w.heap.size (w.alloc (.cells #[] 5)) (.slice (some ⟨w.heap.size, 0, none⟩) 0 0) [] := ⟨by simp, .inr ⟨w.heap.size, 0, #[], rfl, Nat.le_refl _, (MapKept.heap_alloc w _).1, by simp, by unfold maxLen; omega, rfl, rfl⟩⟩
    have rd0 := Rd.later h (below_alloc w (.cells #[] 5))
    have hsz : w.heap.size ≤ (w.alloc (.cells #[] 5)).heap.size := by simp
    have b0 := below_alloc w (.cells #[] 5)
    obtain ⟨us, hus⟩ : ∃ us, bs.map bv = us := ⟨_, rfl⟩
    rw [hus] at one l1 l2 rd0 ⊢
    have HU : Hid (bs.map bv = us) := hus
    clear h hl0 hus hnil hcap
    go_enter Try.func10, Try.ntmps10
    go_wp2_with (at_builtin; refine wpList_catV rfl (.tmp 5) (.tmp 6) 22 rfl 5 i0 (.int .u8 0) 1 underB hi hz0 hz1 hz2 rfl w.heap.size _ _ _ _ one rfl own0 hsz rfl rd0 l1 l2 ?_; intro v3 w3 r3 g3)
    go_ret
    exact ⟨v3, rfl, by rw [RowB, HU.out]; simpa using r3, below_grown b0 own0 (Nat.le_refl _) hsz g3⟩
/-- The rows of a scan, as values. -/
theorem RowsV.open {base : Nat} {W : World} {v : Value} {ps : List (List Nat)} (h : RowsV base W v ps) : ∃ ys : List Value, RowV 22 base W v ys ∧ ys.length = ps.length ∧ (∀ i, i < ps.length → RowB 5 base W (ys.getD i undef) (ps.getD i [])) ∧ (∀ i j, i < ps.length → j < ps.length → i ≠ j → ∀ g, (ys.getD i undef).ownBlock = some g → (ys.getD j undef).ownBlock ≠ some g) := by
  obtain ⟨ys, h1, h2, h3, h4⟩ := h.row
  refine ⟨ys, h1, h2, fun i hi => ?_, fun i j hi hj hne g e1 e2 => ?_⟩
  · have := h3 (ys[i]'(by omega), ps[i]) (by rw [List.mem_iff_getElem]; exact ⟨i, by rw [List.length_zip]; omega, by simp⟩)
    simp only at this
    rw [List.getD_eq_getElem?_getD, List.getD_eq_getElem?_getD, List.getElem?_eq_getElem (by omega), List.getElem?_eq_getElem hi]
    exact this
  · rw [List.pairwise_iff_getElem] at h4
    rw [List.getD_eq_getElem?_getD, List.getElem?_eq_getElem (by omega)] at e1 e2
    rcases Nat.lt_or_gt_of_ne hne with hlt | hlt
    · exact h4 i j (by omega) (by omega) hlt g e1 e2
    · exact h4 j i (by omega) (by omega) hlt g e2 e1
end Go.Proofs.Ytkjnklagjhhhkaa
