/-
  Ours: script.Lines at a seat of LedOwn (gen_sclw3.py).
-/
import Derived.Test.YtkjnklagjhhhkaaGreatDoorScLw2
import Derived.Test.YtkjnklagjhhhkaaGreatDoorScM
import Derived.Lib.SliceRun
import Derived.Lib.BytesEntry
import Derived.Lib.SlBytesConst
import Derived.Laws.Externs
namespace Go.Proofs.YtkjnklagjhhhkaaGreatDoor
open Go.RowKit

theorem Rd.tail {w : World} {ao : Option Addr} {n c : Nat} {vs : List Value} (h : Rd w (.slice ao n c) vs) {k : Nat} (hk : k ≤ n) {ad : Option Addr} (ha : ∀ g o, ao = some ⟨g, o, none⟩ → k < n → ad = some ⟨g, o + k, none⟩) (hn : ad = none → c - k = 0) : Rd w (.slice ad (n - k) (c - k)) (vs.drop k) := by
  obtain ⟨ao', c', e, h1, h2, H⟩ := h
  injection e with e1 e2 e3
  subst e1 e2 e3
  have hl : (vs.drop k).length = vs.length - k := List.length_drop ..
  refine ⟨ad, c - k, by rw [hl], by omega, hn, fun i hi => ?_⟩
  rw [hl] at hi
  obtain ⟨g, o, e1, lt, e2⟩ := H (k + i) (by omega)
  refine ⟨g, o + k, ha g o e1 (by omega), lt, ?_⟩
  rw [Nat.add_assoc, e2]
  simp
theorem infoS : (Tryz.prog.info? 22).map (fun i => (i.zero, i.size, i.bytes)) = some (some (.slice none 0 0), 1, 24) := by kernel_rfl
theorem underS : Tryz.prog.underlying 36 = some (.slice 22) := by kernel_rfl
theorem rows_ne {e e' : TypeId} {base base' : Nat} {w : World} {v v' : Value} {xs ys : List Value} (h : RowV e base w v xs) (h' : RowV e' base' w v' ys) (hne : e ≠ e') {g : Nat} (hg : v.ownBlock = some g) : v'.ownBlock ≠ some g := by
  intro hg'
  rcases h.2 with ⟨rfl, _⟩ | ⟨g1, cap, cur, rfl, _, hh, _⟩
  · simp [Value.ownBlock] at hg
  rcases h'.2 with ⟨rfl, _⟩ | ⟨g2, cap', cur', rfl, _, hh', _⟩
  · simp [Value.ownBlock] at hg'
  obtain rfl : g1 = g := by simpa [Value.ownBlock] using hg
  obtain rfl : g2 = g1 := by simpa [Value.ownBlock] using hg'
  rw [hh] at hh'
  injection hh' with hh'
  injection hh' with h1 h2
  exact hne h2
structure RowsV (base : Nat) (w : World) (v : Value) (ps : List (List Nat)) : Prop where
  row : ∃ vs : List Value, RowV 22 base w v vs ∧ vs.length = ps.length ∧ (∀ x ∈ vs.zip ps, RowB 5 base w x.1 x.2) ∧ vs.Pairwise (fun a b => ∀ g, a.ownBlock = some g → b.ownBlock ≠ some g)
theorem RowsV.later {base : Nat} {w w' : World} {v : Value} {ps : List (List Nat)} (h : RowsV base w v ps) (hb : Below w.heap.size w w') : RowsV base w' v ps := by
  obtain ⟨vs, h1, h2, h3, h4⟩ := h.row
  exact ⟨vs, RowV.later h1 hb, h2, fun x hx => RowV.later (h3 x hx) hb, h4⟩
theorem RdB.from {w : World} {ao : Option Addr} {cap A : Nat} {bs : List Nat} (h : RdB w (.slice ao bs.length cap) bs) (hA : A ≤ bs.length) : RdB w (.slice (if A = cap then ao else ao.map (fun x => x.add A)) (bs.length - A) (cap - A)) (bs.drop A) := by
  obtain ⟨ao', cap', e, hcap, hnil⟩ := h.len
  injection e with e1 e2 e3
  subst e1 e3
  rw [List.length_map] at hcap
  have tail : ∀ ad : Option Addr, (A < bs.length → ad = ao.map (fun x => x.add A)) → (ad = none → cap - A = 0) → RdB w (.slice ad (bs.length - A) (cap - A)) (bs.drop A) := fun ad h1 h2 => by
    have r := Rd.tail (k := A) (ad := ad) h hA (fun g o e hk => by rw [h1 hk, e]; simp [Addr.add_lit]) h2
    rw [← List.map_drop] at r
    exact r
  by_cases hc : A = cap
  · rw [if_pos hc]
    exact tail ao (fun hk => by omega) (fun _ => by omega)
  · rw [if_neg hc]
    refine tail _ (fun _ => rfl) (fun e => ?_)
    cases ao with
    | none => have := hnil rfl; omega
    | some ad => cases e
theorem RowsV.mono {base base' : Nat} {w : World} {v : Value} {ps : List (List Nat)} (h : RowsV base w v ps) (hb : base' ≤ base) : RowsV base' w v ps := by
  obtain ⟨vs, h1, h2, h3, h4⟩ := h.row
  exact ⟨vs, h1.mono hb, h2, fun x hx => (h3 x hx).mono hb, h4⟩
def RdR (w : World) (v : Value) (cs : List (List Nat)) : Prop :=
  ∃ ao c, v = .slice ao cs.length c ∧ cs.length ≤ c ∧ ∀ i, i < cs.length → ∃ g o a' c', ao = some ⟨g, o, none⟩ ∧ g < w.heap.size ∧ w.cell? ⟨g, o + i, none⟩ = some (.slice a' (cs.getD i []).length c') ∧ RdB w (.slice a' (cs.getD i []).length c') (cs.getD i [])
theorem RdR.later {w w' : World} {v : Value} {cs : List (List Nat)} (h : RdR w v cs) (hb : Below w.heap.size w w') : RdR w' v cs := by
  obtain ⟨ao, c, e, h1, H⟩ := h
  refine ⟨ao, c, e, h1, fun i hi => ?_⟩
  obtain ⟨g, o, a', c', e1, lt, hc, hr⟩ := H i hi
  exact ⟨g, o, a', c', e1, Nat.lt_of_lt_of_le lt hb.size, (hb.cell (p := ⟨g, o + i, none⟩) lt).trans hc, Rd.later hr hb⟩
theorem RdR.drewN {w : World} {v : Value} {cs : List (List Nat)} (h : RdR w v cs) (n : Nat) : RdR (w.drewN n) v cs := h
theorem RdR.len {w : World} {v : Value} {cs : List (List Nat)} (h : RdR w v cs) : ∃ ao c, v = .slice ao cs.length c ∧ cs.length ≤ c := by obtain ⟨ao, c, e, h1, _⟩ := h; exact ⟨ao, c, e, h1⟩
theorem RdR.at {w : World} {ao : Option Addr} {n c : Nat} {cs : List (List Nat)} (h : RdR w (.slice ao n c) cs) : n = cs.length ∧ n ≤ c ∧ ∀ i, i < n → ∃ g o a' c', ao = some ⟨g, o, none⟩ ∧ w.cell? ⟨g, o + i, none⟩ = some (.slice a' (cs.getD i []).length c') ∧ RdB w (.slice a' (cs.getD i []).length c') (cs.getD i []) := by
  obtain ⟨ao', c', e, h1, H⟩ := h
  injection e with e1 e2 e3
  subst e1 e2 e3
  refine ⟨rfl, h1, fun i hi => ?_⟩
  obtain ⟨g, o, a', c', e1, _, hc, hr⟩ := H i hi
  exact ⟨g, o, a', c', e1, hc, hr⟩
theorem RdR.cut {w : World} {ao : Option Addr} {n c : Nat} {cs : List (List Nat)} (h : RdR w (.slice ao n c) cs) {k : Nat} (hk : k ≤ n) : RdR w (.slice ao k c) (cs.take k) := by
  obtain ⟨ao', c', e, h1, H⟩ := h
  injection e with e1 e2 e3
  subst e1 e2 e3
  have ll : (cs.take k).length = k := by rw [List.length_take]; omega
  refine ⟨ao, c, by rw [ll], by omega, fun i hi => ?_⟩
  rw [ll] at hi
  obtain ⟨g, o, a', c', e1, lt, hc, hr⟩ := H i (by omega)
  have e : (cs.take k).getD i [] = cs.getD i [] := by simp only [List.getD_eq_getElem?_getD, List.getElem?_take, if_pos hi]
  rw [e]
  exact ⟨g, o, a', c', e1, lt, hc, hr⟩
theorem RdR.tail {w : World} {ao : Option Addr} {n c : Nat} {cs : List (List Nat)} (h : RdR w (.slice ao n c) cs) {k : Nat} (hk : k ≤ n) {ad : Option Addr} (ha : ∀ g o, ao = some ⟨g, o, none⟩ → k < n → ad = some ⟨g, o + k, none⟩) : RdR w (.slice ad (n - k) (c - k)) (cs.drop k) := by
  obtain ⟨ao', c', e, h1, H⟩ := h
  injection e with e1 e2 e3
  subst e1 e2 e3
  have ll : (cs.drop k).length = cs.length - k := List.length_drop ..
  refine ⟨ad, c - k, by rw [ll], by omega, fun i hi => ?_⟩
  rw [ll] at hi
  obtain ⟨g, o, a', c', e1, lt, hc, hr⟩ := H (k + i) (by omega)
  have e : (cs.drop k).getD i [] = cs.getD (k + i) [] := by simp only [List.getD_eq_getElem?_getD, List.getElem?_drop]
  rw [e]
  exact ⟨g, o + k, a', c', ha g o e1 (by omega), lt, by rw [Nat.add_assoc]; exact hc, hr⟩
theorem RowsV.rd {base : Nat} {w : World} {v : Value} {ps : List (List Nat)} (h : RowsV base w v ps) : RdR w v ps := by
  obtain ⟨vs, h1, h2, h3, _⟩ := h.row
  obtain ⟨ao, cap, rfl, hc, _, H⟩ := RowV.rd h1
  refine ⟨ao, cap, by rw [h2], by omega, fun i hi => ?_⟩
  obtain ⟨g, o, e1, lt, e2⟩ := H i (by omega)
  have hm : (vs[i], ps[i]) ∈ vs.zip ps := by
    have : (vs.zip ps)[i]? = some (vs[i], ps[i]) := by rw [List.getElem?_zip_eq_some]; exact ⟨List.getElem?_eq_getElem _, List.getElem?_eq_getElem _⟩
    exact List.mem_of_getElem? this
  have hr := RowV.rd (h3 _ hm)
  have hg : ps.getD i [] = ps[i] := by rw [List.getD_eq_getElem?_getD, List.getElem?_eq_getElem hi]; rfl
  obtain ⟨a', c', e3, _⟩ := hr.len
  simp only [List.length_map] at e3
  refine ⟨g, o, a', c', e1, lt, ?_, ?_⟩
  · rw [e2, hg, e3]
  · rw [hg, ← e3]; exact hr
theorem take_next {α : Type} (cs : List (List α)) (k : Nat) (h : k < cs.length) : cs.take (k + 1) = cs.take k ++ [cs.getD k []] := by
  rw [List.take_add_one, List.getD_eq_getElem?_getD, List.getElem?_eq_getElem h]; rfl
theorem zip_mem {α β : Type} {vs : List α} {ps : List β} (hl : vs.length = ps.length) {y : α} (hy : y ∈ vs) : ∃ q, (y, q) ∈ vs.zip ps := by
  obtain ⟨i, hi, e⟩ := List.getElem_of_mem hy
  have : (vs.zip ps)[i]? = some (vs[i], ps[i]) := by rw [List.getElem?_zip_eq_some]; exact ⟨List.getElem?_eq_getElem _, List.getElem?_eq_getElem _⟩
  exact ⟨ps[i], by rw [← e]; exact List.mem_of_getElem? this⟩
theorem RowsV.push {base : Nat} {w1 w2 : World} {v v' x : Value} {vs : List Value} {ps : List (List Nat)} {p : List Nat} (hv : RowV 22 base w1 v vs) (hl : vs.length = ps.length) (hi : ∀ y ∈ vs.zip ps, RowB 5 base w1 y.1 y.2)
    (hp : vs.Pairwise (fun a b => ∀ g, a.ownBlock = some g → b.ownBlock ≠ some g)) (hx : RowB 5 base w1 x p) (ha : ∀ y ∈ vs, ∀ g, y.ownBlock = some g → x.ownBlock ≠ some g) (r : RowV 22 base w2 v' (vs ++ [x])) (g : w1.grownBy w2 v.ownBlock) : RowsV base w2 v' (ps ++ [p]) := by
  have keep : ∀ {y : Value} {q : List Nat}, RowB 5 base w1 y q → RowB 5 base w2 y q := fun hy => RowV.kept hy g (fun g' hg e => rows_ne hy hv (by decide) hg e)
  refine ⟨vs ++ [x], r, by simp [hl], fun y hy => ?_, ?_⟩
  · rw [List.zip_append hl] at hy
    rcases List.mem_append.1 hy with h | h
    · exact keep (hi y h)
    · simp at h; subst h; exact keep hx
  · rw [List.pairwise_append]
    refine ⟨hp, List.pairwise_singleton _ _, fun y hy z hz => ?_⟩
    simp at hz; subst hz
    exact ha y hy
theorem getD_bv {bs : List Nat} {i : Nat} (h : i < (bs.map bv).length) : (bs.map bv)[i] = .int .u8 ((bs.getD i 0 : Nat) : Int) := by
  rw [List.getElem_map, List.getD_eq_getElem?_getD, List.getElem?_eq_getElem (by simpa using h)]; rfl
set_option maxRecDepth 40000 in
set_option maxHeartbeats 600000 in
theorem clone_at (bs : List Nat) (v : Value) (w : World) (hl : bs.length ≤ 1000000000000) (h : RdB w v bs) : Calls Tryz.prog 23 #[v] w (NewB w bs) := by
  obtain ⟨i0, hi, hz0, hz1, hz2⟩ := info_parts infoB
  have hm : ∀ (w : World) (a : Option Addr) (n c : Nat), (binOp .eql 22 (.slice a n c) (.slice none 0 0)).run Tryz.prog w = .ok (.bool a.isNone) w := fun w a n c => Lib.run_eql_slice_nil w _ _ a n c 0 0 underB
  obtain ⟨ao, cap, rfl, hcap, hnil⟩ := h.len
  have hl0 : (bs.map bv).length = bs.length := List.length_map ..
  cases ao with
  | none =>
    have : bs = [] := List.eq_nil_of_length_eq_zero (by have := hnil rfl; omega)
    subst this
    obtain rfl := hnil rfl
    clear h
    go_enter Tryz.func23, Tryz.ntmps23
    go_wp2_with fail
    go_ret
    exact ⟨_, rfl, RowV.nil _ _ _, Below.refl _ _⟩
  | some ad =>
    have one := one_bv bs
    have l1 : ([] : List Value).length + (bs.map bv).length ≤ maxLen := by simp only [List.length_map, List.length_nil]; unfold maxLen; omega
    have l2 : (([] : List Value).length + (bs.map bv).length) * 1 ≤ 140737488355328 := by simp only [List.length_map, List.length_nil]; omega
    have own0 : RowV 5 w.heap.size (w.alloc (.cells #[] 5)) (.slice (some ⟨w.heap.size, 0, none⟩) 0 0) [] := ⟨by simp, .inr ⟨w.heap.size, 0, #[], rfl, Nat.le_refl _, (MapKept.heap_alloc w _).1, by simp, by unfold maxLen; omega, rfl, rfl⟩⟩
    have rd0 := Rd.later h (below_alloc w (.cells #[] 5))
    have hsz : w.heap.size ≤ (w.alloc (.cells #[] 5)).heap.size := by simp
    have b0 := below_alloc w (.cells #[] 5)
    obtain ⟨us, hus⟩ : ∃ us, bs.map bv = us := ⟨_, rfl⟩
    rw [hus] at one l1 l2 rd0 ⊢
    have HU : Hid (bs.map bv = us) := hus
    clear h hl0 hus hnil hcap
    go_enter Tryz.func23, Tryz.ntmps23
    go_wp2_with (at_builtin; refine wpList_catV rfl (.tmp 5) (.tmp 6) 22 rfl 5 i0 (.int .u8 0) 1 underB hi hz0 hz1 hz2 rfl w.heap.size _ _ _ _ one rfl own0 hsz rfl rd0 l1 l2 ?_; intro v3 w3 r3 g3)
    go_ret
    exact ⟨v3, rfl, by rw [RowB, HU.out]; simpa using r3, below_grown b0 own0 (Nat.le_refl _) hsz g3⟩
theorem RowsV.open {base : Nat} {W : World} {v : Value} {ps : List (List Nat)} (h : RowsV base W v ps) : ∃ ys : List Value, RowV 22 base W v ys ∧ ys.length = ps.length ∧ (∀ i, i < ps.length → RowB 5 base W (ys.getD i undef) (ps.getD i [])) ∧ (∀ i j, i < ps.length → j < ps.length → i ≠ j → ∀ g, (ys.getD i undef).ownBlock = some g → (ys.getD j undef).ownBlock ≠ some g) := by
  obtain ⟨ys, h1, h2, h3, h4⟩ := h.row
  refine ⟨ys, h1, h2, fun i hi => ?_, fun i j hi hj hne g e1 e2 => ?_⟩
  · have := h3 (ys[i]'(by omega), ps[i]) (by rw [List.mem_iff_getElem]; exact ⟨i, by rw [List.length_zip]; omega, by simp⟩)
    simp only at this
    rw [List.getD_eq_getElem?_getD, List.getD_eq_getElem?_getD, List.getElem?_eq_getElem (by omega), List.getElem?_eq_getElem hi]
    exact this
  · rw [List.pairwise_iff_getElem] at h4
    rw [List.getD_eq_getElem?_getD, List.getElem?_eq_getElem (by omega)] at e1 e2
    rcases Nat.lt_or_gt_of_ne hne with hlt | hlt
    · exact h4 i j (by omega) (by omega) hlt g e1 e2
    · exact h4 j i (by omega) (by omega) hlt g e2 e1
theorem ints_getD (bs : List Nat) (i : Nat) (h : i < bs.length) : (bs.map Int.ofNat).getD i 0 = ((bs.getD i 0 : Nat) : Int) := by
  simp [List.getD_eq_getElem?_getD, List.getElem?_eq_getElem h]
theorem RdB.cell {w : World} {ao : Option Addr} {n cap : Nat} {bs : List Nat} (h : RdB w (.slice ao n cap) bs) : n = bs.length ∧ n ≤ cap ∧ ∀ i, i < n → ∃ g o, ao = some ⟨g, o, none⟩ ∧ g < w.heap.size ∧ w.cell? ⟨g, o + i, none⟩ = some (.int .u8 ((bs.getD i 0 : Nat) : Int)) := by
  obtain ⟨ao', c', e, h1, _, H⟩ := h
  injection e with e1 e2 e3
  subst e1 e3
  rw [List.length_map] at e2 h1
  subst e2
  refine ⟨rfl, h1, fun i hi => ?_⟩
  obtain ⟨g, o, e1, lt, e2⟩ := H i (by rw [List.length_map]; exact hi)
  exact ⟨g, o, e1, lt, by rw [e2, getD_bv]⟩
set_option maxRecDepth 40000 in
set_option maxHeartbeats 1000000 in
theorem indexByte_at (c : Nat) (bs : List Nat) (v : Value) (w : World) (h : RdB w v bs) :
    Calls Tryz.prog 56 #[v, .int .u8 (c : Int)] w fun e w' => e = .returned (.int .i64 (ScM.ix c bs)) ∧ w' = w := by
  obtain ⟨ao, cap, rfl, hcap, hnil⟩ := h.len
  obtain ⟨-, -, H⟩ := RdB.cell h
  have RUN : ∀ args, args = #[.slice ao (bs.map bv).length cap, .int .u8 (c : Int)] → (Extern.BytealgIndexByte.indexByte args).run Tryz.prog w = .ok (.int .i64 (ScM.ix c bs)) w := fun args e => by
    subst e
    have hl : (bs.map bv).length = bs.length := List.length_map ..
    have hu : ((c : Int).toNat).toUInt8 = UInt8.ofNat c := by simp
    rw [hl] at hcap H ⊢
    cases ao with
    | none =>
      have : bs = [] := List.eq_nil_of_length_eq_zero (by have := hnil rfl; omega)
      subst this
      exact Lib.run_indexByteNil w _ _ _
    | some ad =>
      by_cases h0 : bs.length = 0
      · obtain rfl : bs = [] := List.eq_nil_of_length_eq_zero h0
        obtain ⟨b, o, s⟩ := ad
        have := Lib.run_indexByteNil (P := Tryz.prog) w 0 0 (c : Int)
        exact this
      · obtain ⟨g, o, e, _, _⟩ := H 0 (by omega)
        injection e with e
        subst e
        have := Lib.run_indexByteSlice (P := Tryz.prog) w g o bs.length cap (bs.map Int.ofNat) (by simp) (fun i hi => by
          obtain ⟨g', o', e, _, hc⟩ := H i hi
          injection e with e
          injection e with e1 e2
          subst e1 e2
          rw [hc, ints_getD _ _ hi]) (c : Int)
        rw [this, hu]
        rfl
  generalize (bs.map bv).length = L at *
  generalize ScM.ix c bs = X at *
  clear H h hcap hnil
  go_enter Tryz.func56, Tryz.ntmps56
  go_wp2
  rw [run_callFunc_extern Tryz.func72 (by kernel_rfl) (by kernel_rfl) (by kernel_rfl) (e := Extern.BytealgIndexByte.indexByte) (by kernel_rfl), RUN _ rfl]
  simp only [Result.andThen]
  rw [Oper.upon_value]
  go_wp2
  go_ret
  exact ⟨rfl, rfl⟩
set_option maxRecDepth 1000000 in
set_option maxHeartbeats 1000000 in
theorem index1_at (c : Nat) (bs : List Nat) (v : Value) (g2 : Nat) (w : World) (h : RdB w v bs) (h2 : w.cell? ⟨g2, 0, none⟩ = some (.int .u8 (c : Int))) :
    Calls Tryz.prog 42 #[v, .slice (some ⟨g2, 0, none⟩) 1 1] w fun e w' => e = .returned (.int .i64 (ScM.ix c bs)) ∧ w' = w := by
  have IB : Hid (Calls Tryz.prog 56 #[v, .int .u8 (c : Int)] w fun e w' => e = .returned (.int .i64 (ScM.ix c bs)) ∧ w' = w) := indexByte_at c bs v w h
  obtain ⟨ao, cap, rfl, _, _⟩ := h.len
  generalize (bs.map bv).length = L at *
  generalize ScM.ix c bs = X at *
  clear h
  go_enter Tryz.func42, Tryz.ntmps42
  go_wp2_with (go_at_call 56; refine IB.out.mono ?_; rintro e w' ⟨rfl, hw⟩; rw [hw]; clear hw w')
  go_ret
  exact ⟨rfl, rfl⟩
def CutAns (bs : List Nat) (ao : Option Addr) (cap : Nat) (w : World) (e : Ending) (w' : World) : Prop := ∃ n, w' = w.drewN n ∧
  ((10 ∉ bs ∧ e = .returned (.tuple #[.slice ao bs.length cap, .slice none 0 0, .bool false])) ∨
   ∃ i ad, i < bs.length ∧ bs = bs.take i ++ 10 :: bs.drop (i + 1) ∧ 10 ∉ bs.take i ∧ e = .returned (.tuple #[.slice ao i cap, .slice ad (bs.length - (i + 1)) (cap - (i + 1)), .bool true]) ∧ ∀ w0, RdB w0 (.slice ao bs.length cap) bs → RdB w0 (.slice ad (bs.length - (i + 1)) (cap - (i + 1))) (bs.drop (i + 1)))
set_option maxRecDepth 40000 in
set_option maxHeartbeats 1000000 in
theorem cut1_at (bs : List Nat) (ao : Option Addr) (cap g2 : Nat) (w : World) (hb : ∀ b ∈ bs, b < 256) (hl : bs.length ≤ 1000000000) (h : RdB w (.slice ao bs.length cap) bs) (h2 : w.cell? ⟨g2, 0, none⟩ = some (.int .u8 10)) :
    Calls Tryz.prog 21 #[.slice ao bs.length cap, .slice (some ⟨g2, 0, none⟩) 1 1] w (CutAns bs ao cap w) := by
  have IX : Hid (Calls Tryz.prog 42 #[.slice ao bs.length cap, .slice (some ⟨g2, 0, none⟩) 1 1] w fun e w' => e = .returned (.int .i64 (ScM.ix 10 bs)) ∧ w' = w) := index1_at 10 bs _ g2 w h h2
  obtain ⟨-, hcap, -⟩ := RdB.cell h
  unfold CutAns
  by_cases hx : ScM.ix 10 bs = -1
  · rw [hx] at IX
    have N := ScM.ix_none hx
    have HN : Hid (10 ∉ bs) := N
    clear h h2 hb N hx
    go_enter Tryz.func21, Tryz.ntmps21
    go_wp2_with (go_at_call 42; refine IX.out.mono ?_; rintro e w' ⟨rfl, hw⟩; rw [hw]; clear hw w')
    go_ret3
    exact ⟨0, rfl, .inl ⟨HN.out, rfl⟩⟩
  · obtain ⟨i, hi⟩ : ∃ i : Nat, ScM.ix 10 bs = (i : Int) := ⟨(ScM.ix 10 bs).toNat, by have := ScM.ix_ge 10 bs; omega⟩
    obtain ⟨q1, q2, q3⟩ := ScM.ix_some (by decide) hb hi
    rw [hi] at IX
    have hr := fun (w0 : World) (h0 : RdB w0 (.slice ao bs.length cap) bs) => RdB.from (A := i + 1) h0 (by omega)
    have FIN : Hid (∀ n ad, ad = (if i + 1 = cap then ao else ao.map (fun x => x.add (i + 1))) → ∃ n', w.drewN n = w.drewN n' ∧ ((10 ∉ bs ∧ Ending.returned (.tuple #[.slice ao i cap, .slice ad (bs.length - (i + 1)) (cap - (i + 1)), .bool true]) = .returned (.tuple #[.slice ao bs.length cap, .slice none 0 0, .bool false])) ∨
       ∃ i' ad', i' < bs.length ∧ bs = bs.take i' ++ 10 :: bs.drop (i' + 1) ∧ 10 ∉ bs.take i' ∧ Ending.returned (.tuple #[.slice ao i cap, .slice ad (bs.length - (i + 1)) (cap - (i + 1)), .bool true]) = .returned (.tuple #[.slice ao i' cap, .slice ad' (bs.length - (i' + 1)) (cap - (i' + 1)), .bool true]) ∧ ∀ w0, RdB w0 (.slice ao bs.length cap) bs → RdB w0 (.slice ad' (bs.length - (i' + 1)) (cap - (i' + 1))) (bs.drop (i' + 1)))) := fun n ad e => by
      subst e
      exact ⟨n, rfl, .inr ⟨i, _, q1, q2, q3, rfl, hr⟩⟩
    have hx' : ¬ ((i : Int) = -1) := by omega
    clear h h2 hb hx q2 q3 hr hi
    obtain ⟨ao', hao⟩ : ∃ ao', (if i + 1 = cap then ao else ao.map (fun x => x.add (i + 1))) = ao' := ⟨_, rfl⟩
    generalize bs.length = L at *
    by_cases hce : i + 1 = cap
    · subst hce
      obtain rfl : L = i + 1 := by omega
      simp only [Nat.sub_self] at FIN
      go_enter Tryz.func21, Tryz.ntmps21
      go_wp2_with (go_at_call 42; refine IX.out.mono ?_; rintro e w' ⟨rfl, hw⟩; rw [hw]; clear hw w')
      go_quiet (fail)
      go_wp2_with fail
      go_ret3
      exact FIN.out _ _ (by simp)
    · go_enter Tryz.func21, Tryz.ntmps21
      go_wp2_with (go_at_call 42; refine IX.out.mono ?_; rintro e w' ⟨rfl, hw⟩; rw [hw]; clear hw w')
      go_quiet (fail)
      go_wp2_with fail
      go_ret3
      exact FIN.out _ _ (by rw [if_neg hce]; congr 1)
theorem conv1 (w : World) (ao : Option Addr) (cap g o c : Nat) (ha : ao = some ⟨g, o, none⟩) (hc : w.cell? ⟨g, o, none⟩ = some (.int .u8 (c : Int))) (hlt : c < 256) :
    (convert 22 9 (.slice ao 1 cap)).run Tryz.prog w = .ok (.string ⟨#[UInt8.ofNat c]⟩) w := by
  subst ha
  have h := run_convert_bytes_back (P := Tryz.prog) w 22 9 5 ⟨g, o, none⟩ cap [UInt8.ofNat c] (by kernel_rfl) (by kernel_rfl) (by kernel_rfl) (fun j hj => by
    have hj0 : j = 0 := by simpa using hj
    subst hj0
    have e : (⟨g, o, none⟩ : Addr).add 0 = ⟨g, o, none⟩ := by simp [Addr.add]
    rw [e, hc]
    have e2 : (UInt8.ofNat c).toNat = c := by simp; omega
    simp [e2])
  exact h
theorem str1_eq (c d : Nat) (hc : c < 256) (hd : d < 256) : (UInt8.ofNat c == UInt8.ofNat d) = decide (c = d) := by
  rw [Bool.eq_iff_iff]
  simp
  exact ⟨fun h => ScM.u8_inj hc hd h, fun h => by rw [h]⟩
set_option maxRecDepth 40000 in
set_option maxHeartbeats 1000000 in
theorem prefix1_at (c d : Nat) (ao : Option Addr) (L cap g2 : Nat) (w : World) (hlt : c < 256) (hd : d < 256) (h0 : 0 < L) (hL : L ≤ cap) (g o : Nat) (ha : ao = some ⟨g, o, none⟩) (hc : w.cell? ⟨g, o, none⟩ = some (.int .u8 (c : Int))) (h2 : w.cell? ⟨g2, 0, none⟩ = some (.int .u8 (d : Int))) :
    Calls Tryz.prog 22 #[.slice ao L cap, .slice (some ⟨g2, 0, none⟩) 1 1] w fun e w' => e = .returned (.bool (decide (c = d))) ∧ w' = w := by
  subst ha
  have k1 := conv1 w (some ⟨g, o, none⟩) cap g o c rfl hc hlt
  have k2 := conv1 w (some ⟨g2, 0, none⟩) 1 g2 0 d rfl h2 hd
  have k3 := str1_eq c d hlt hd
  have EQ : Hid (Calls Tryz.prog 43 #[.slice (some ⟨g, o, none⟩) 1 cap, .slice (some ⟨g2, 0, none⟩) 1 1] w fun e w' => e = .returned (.bool (decide (c = d))) ∧ w' = w) := by
    clear hc h2
    generalize decide (c = d) = B at *
    go_enter Tryz.func43, Tryz.ntmps43
    go_wp2_with fail
    go_ret
    exact ⟨rfl, rfl⟩
  clear hc h2 k1 k2 k3
  have hl : ¬ ((L : Int) < 1) := by omega
  have hl1 : (1 : Int) ≤ (L : Int) := by omega
  generalize decide (c = d) = B at *
  go_enter Tryz.func22, Tryz.ntmps22
  go_wp2_with (go_at_call 43; refine EQ.out.mono ?_; rintro e w' ⟨rfl, hw⟩; rw [hw]; clear hw w')
  go_ret
  exact ⟨rfl, rfl⟩
theorem cell_marked (w : World) (u : Value) (ty : TypeId) (m : Nat × Nat) : (w.alloc (.cells #[u] ty m)).cell? ⟨w.heap.size, 0, none⟩ = some u := by
  have h := (MapKept.heap_alloc w (.cells #[u] ty m)).1
  simp only [World.cell?, h]
  rfl
def mLn (vt vm : Value) : Nat := match vt, vm with | .slice _ n _, .bool true => n + 1 | _, _ => 0
def NewLs (w : World) (ps : List (List Nat)) (e : Ending) (w' : World) : Prop := ∃ a c, e = .returned (.slice a ps.length c) ∧ RowsV w.heap.size w' (.slice a ps.length c) ps ∧ Below w.heap.size w w'
structure CutS (w : World) (bs t p t' : List Nat) (a1 : Option Addr) (c1 : Nat) (a2 : Option Addr) (c2 : Nat) (m : Bool) : Prop where
  line : RdB w (.slice a1 p.length c1) p
  text : RdB w (.slice a2 t'.length c2) t'
  yes : m = true → ScM.lns t = ScM.keep p ++ ScM.lns t' ∧ t'.length < t.length
  no : m = false → ScM.lns t = ScM.keep p
  drp : ∃ k, t' = bs.drop k
  byt : ∀ b ∈ p, b < 256
  len : p.length ≤ t.length
theorem CutAns.one {w w1 w' : World} {bs t : List Nat} {ao : Option Addr} {cap : Nat} {e : Ending} (h : CutAns t ao cap w1 e w') (hr : RdB w (.slice ao t.length cap) t) (hk : ∃ k, t = bs.drop k) (hb : ∀ b ∈ bs, b < 256) :
    ∃ n p t' a1 c1 a2 c2 m, w' = w1.drewN n ∧ e = .returned (.tuple #[.slice a1 p.length c1, .slice a2 t'.length c2, .bool m]) ∧ CutS w bs t p t' a1 c1 a2 c2 m := by
  obtain ⟨n, hw, h⟩ := h
  obtain ⟨k, hk⟩ := hk
  have ht : ∀ b ∈ t, b < 256 := fun b hb' => hb b (by rw [hk] at hb'; exact List.mem_of_mem_drop hb')
  rcases h with ⟨h1, rfl⟩ | ⟨i, ad, h1, h2, h3, rfl, h4⟩
  · exact ⟨n, t, [], ao, cap, none, 0, false, hw, rfl, hr, ⟨none, 0, rfl, by simp, fun _ => rfl, fun i hi => by simp at hi⟩, (fun e => by cases e), fun _ => ScM.lns_no h1, ⟨bs.length, by simp⟩, ht, Nat.le_refl _⟩
  · have hl : (t.take i).length = i := by rw [List.length_take]; omega
    have hl2 : (t.drop (i + 1)).length = t.length - (i + 1) := List.length_drop ..
    refine ⟨n, t.take i, t.drop (i + 1), ao, cap, ad, cap - (i + 1), true, hw, by rw [hl, hl2], ?_, ?_, fun _ => ⟨ScM.lns_cut h2 h3, by omega⟩, (fun e => by cases e), ⟨k + (i + 1), by rw [hk, List.drop_drop]⟩, fun b hb' => ht b (List.mem_of_mem_take hb'), by omega⟩
    · have := Rd.cut (k := i) hr (by omega)
      rw [← List.map_take] at this
      rw [hl]; exact this
    · rw [hl2]; exact h4 w hr
structure LnJ (bs : List Nat) (w : World) (vt vl : Value) (more : Bool) (t : List Nat) (ls : List (List Nat)) (wr : World) : Prop where
  text : RdB w vt t
  rows : RowsV w.heap.size wr vl ls
  drp : ∃ k, t = bs.drop k
  yes : more = true → ls ++ ScM.lns t = ScM.lns bs
  no : more = false → ls = ScM.lns bs
  bel : Below w.heap.size w wr
theorem RowsV.nil (base : Nat) (w : World) : RowsV base w (.slice none 0 0) [] := ⟨[], RowV.nil _ _ _, rfl, (fun _ hx => nomatch hx), List.Pairwise.nil⟩
theorem LnJ.begin {bs : List Nat} {w : World} {v : Value} (h : RdB w v bs) : LnJ bs w v (.slice none 0 0) true bs [] w := ⟨h, RowsV.nil _ _, ⟨0, rfl⟩, fun _ => by simp, (fun e => by cases e), Below.refl _ _⟩
theorem LnJ.cnt {bs t : List Nat} {w wr : World} {vt vl : Value} {m : Bool} {ls : List (List Nat)} (h : LnJ bs w vt vl m t ls wr) : ls.length ≤ bs.length := by
  have h1 := ScM.lns_len bs
  cases m with
  | true => have := congrArg List.length (h.yes rfl); simp at this; omega
  | false => rw [h.no rfl]; exact h1
theorem LnJ.skip {bs t p t' : List Nat} {w wr w2 : World} {vt vl : Value} {ls : List (List Nat)} {a1 a2 : Option Addr} {c1 c2 : Nat} {m : Bool} (h : LnJ bs w vt vl true t ls wr) (c : CutS w bs t p t' a1 c1 a2 c2 m) (hk : ScM.keep p = []) (b : Below wr.heap.size wr w2) : LnJ bs w (.slice a2 t'.length c2) vl m t' ls w2 := by
  refine ⟨c.text, h.rows.later b, c.drp, fun e => ?_, fun e => ?_, below_trans h.bel b⟩
  · rw [← h.yes rfl, (c.yes e).1, hk]; rfl
  · rw [← h.yes rfl, c.no e, hk, List.append_nil]
theorem LnJ.put {bs t p t' : List Nat} {w wr w2 : World} {vt vl v' : Value} {ls : List (List Nat)} {a1 a2 : Option Addr} {c1 c2 : Nat} {m : Bool} (h : LnJ bs w vt vl true t ls wr) (c : CutS w bs t p t' a1 c1 a2 c2 m) (hk : ScM.keep p = [p]) (r : RowsV w.heap.size w2 v' (ls ++ [p])) (b : Below w.heap.size w w2) : LnJ bs w (.slice a2 t'.length c2) v' m t' (ls ++ [p]) w2 := by
  refine ⟨c.text, r, c.drp, fun e => ?_, fun e => ?_, b⟩
  · rw [← h.yes rfl, (c.yes e).1, hk, List.append_assoc]
  · rw [← h.yes rfl, c.no e, hk]
theorem RowsV.addNew {base : Nat} {w0 w1 : World} {v x : Value} {ps : List (List Nat)} {p : List Nat} (h : RowsV base w0 v ps) (b : Below w0.heap.size w0 w1) (hs : base ≤ w0.heap.size) (hx : RowB 5 w0.heap.size w1 x p) :
    ∃ vs, RowV 22 base w1 v vs ∧ vs.length = ps.length ∧ ∀ w2 v', RowV 22 base w2 v' (vs ++ [x]) → w1.grownBy w2 v.ownBlock → RowsV base w2 v' (ps ++ [p]) := by
  obtain ⟨vs, q1, q2, q3, q4⟩ := h.row
  refine ⟨vs, RowV.later q1 b, q2, fun w2 v' r g => RowsV.push (RowV.later q1 b) q2 (fun y hy => RowV.later (q3 y hy) b) q4 (hx.mono hs) (fun y hy g' hg e => ?_) r g⟩
  obtain ⟨q, hq⟩ := zip_mem q2 hy
  have := (q3 _ hq).block_lt hg
  have := hx.block_ge e
  omega
set_option maxRecDepth 20000 in
set_option maxHeartbeats 4000000 in
theorem lines_at (bs : List Nat) (v : Value) (w : World) (hb : ∀ b ∈ bs, b < 256) (hl : bs.length ≤ 1000000000) (h : RdB w v bs) : Calls Tryz.prog 12 #[v] w (NewLs w (ScM.lns bs)) := by
  obtain ⟨i0, hi, hz0, hz1, hz2⟩ := info_parts infoS
  have kc := fun (w : World) (C : Array Value) (n c : Nat) => Lib.run_convert_bytes_const (P := Tryz.prog) w 22 5 C n c Tryz.underlying22 Tryz.underlying5
  have HB : Hid (∀ b ∈ bs, b < 256) := hb
  have HL : Hid (bs.length ≤ 1000000000) := hl
  have H0 : Hid (LnJ bs w v (.slice none 0 0) true bs [] w) := LnJ.begin h
  obtain ⟨ao, cap, rfl, -, -⟩ := h.len
  generalize (bs.map bv).length = L0 at *
  clear h hb hl
  go_enter Tryz.func12, Tryz.ntmps12
  go_wp2_with fail
  go_loopw [0, 3, 4] (fun vt vl vm wr => ∃ m t ls, vm = .bool m ∧ Hid (LnJ bs w vt vl m t ls wr)) (fun vt _ vm _ => mLn vt vm)
  case atStart => exact ⟨true, bs, [], rfl, H0⟩
  case round =>
    clear H0
    obtain ⟨m, t, ls, rfl, I⟩ := hrel
    cases m with
    | false =>
      obtain ⟨a, c, e, -⟩ := I.out.rows.rd.len
      subst e
      have FIN : Hid (NewLs w (ScM.lns bs) (.returned (.slice a ls.length c)) wr) := ⟨a, c, by rw [I.out.no rfl], by rw [← I.out.no rfl]; exact I.out.rows, I.out.bel⟩
      clear I
      go_wp2_with fail
      go_ret
      exact FIN.out
    | true =>
      obtain ⟨ta, tc, et, -, -⟩ := I.out.text.len
      rw [List.length_map] at et
      subst et
      have B1 := below_alloc wr (.cells #[.int .u8 10] 5 (1, 2))
      have TL : t.length ≤ 1000000000 := by obtain ⟨k, hk⟩ := I.out.drp; have := HL.out; rw [hk, List.length_drop]; omega
      have TB : ∀ b ∈ t, b < 256 := fun b hb' => by obtain ⟨k, hk⟩ := I.out.drp; rw [hk] at hb'; exact HB.out b (List.mem_of_mem_drop hb')
      have CT : Hid (Calls Tryz.prog 21 #[.slice ta t.length tc, .slice (some ⟨wr.heap.size, 0, none⟩) 1 1] (wr.alloc (.cells #[.int .u8 10] 5 (1, 2))) (CutAns t ta tc (wr.alloc (.cells #[.int .u8 10] 5 (1, 2))))) :=
        cut1_at t ta tc _ _ TB TL (Rd.later I.out.text (below_trans I.out.bel B1)) (cell_marked _ _ _ _)
      have CS : Hid (∀ e w', CutAns t ta tc (wr.alloc (.cells #[.int .u8 10] 5 (1, 2))) e w' → ∃ p t' a1 c1 a2 c2 m, Below wr.heap.size wr w' ∧ e = .returned (.tuple #[.slice a1 p.length c1, .slice a2 t'.length c2, .bool m]) ∧ CutS w bs t p t' a1 c1 a2 c2 m) := fun e w' hA => by
        obtain ⟨n, p, t', a1, c1, a2, c2, m, hw, he, hS⟩ := hA.one I.out.text I.out.drp HB.out
        exact ⟨p, t', a1, c1, a2, c2, m, by rw [hw]; exact below_drewN B1 n, he, hS⟩
      have CNT : Hid (ls.length ≤ 1000000000) := Nat.le_trans I.out.cnt HL.out
      have HS : Hid (w.heap.size ≤ wr.heap.size) := I.out.bel.size
      have ML : Hid (∀ (p t' : List Nat) a1 c1 a2 c2 m, CutS w bs t p t' a1 c1 a2 c2 m → mLn (.slice a2 t'.length c2) (.bool m) < mLn (.slice ta t.length tc) (.bool true)) := fun p t' a1 c1 a2 c2 m hS => by
        cases m with
        | true => have := (hS.yes rfl).2; simp only [mLn]; omega
        | false => simp only [mLn]; omega
      clear B1 TL TB
      go_wp2_with fail
      refine CT.out.mono ?_
      intro e w2 hA
      obtain ⟨p, t', a1, c1, a2, c2, m, B2, rfl, hS⟩ := CS.out e w2 hA
      have S : Hid (CutS w bs t p t' a1 c1 a2 c2 m) := hS
      have MLx : Hid (mLn (.slice a2 t'.length c2) (.bool m) < mLn (.slice ta t.length tc) (.bool true)) := ML.out p t' a1 c1 a2 c2 m hS
      clear CT CS ML hA hS
      by_cases hp : p.length = 0
      · have NX : Hid (LnJ bs w (.slice a2 t'.length c2) u3 m t' ls w2) := I.out.skip S.out (by unfold ScM.keep; rw [if_pos hp]) B2
        have d0 : ¬ (0 : Int) < (p.length : Int) := by omega
        clear S I B2
        generalize p.length = P at *
        generalize t'.length = T' at *
        go_wp2_with fail
        go_roundw
        case rel => exact ⟨m, t', ls, rfl, NX⟩
        case measure => exact MLx.out
      · have d0 : (0 : Int) < (p.length : Int) := by omega
        obtain ⟨-, pc, PC⟩ := RdB.cell S.out.line
        obtain ⟨g, o, ea, glt, cc⟩ := PC 0 (by omega)
        have hc0 : p.getD 0 0 < 256 := by rw [List.getD_eq_getElem?_getD, List.getElem?_eq_getElem (by omega)]; exact S.out.byt _ (List.getElem_mem _)
        have B3 := below_alloc w2 (.cells #[.int .u8 35] 5 (1, 2))
        have BW2 := below_trans I.out.bel B2
        have HP : Hid (Calls Tryz.prog 22 #[.slice a1 p.length c1, .slice (some ⟨w2.heap.size, 0, none⟩) 1 1] (w2.alloc (.cells #[.int .u8 35] 5 (1, 2))) fun e w' => e = .returned (.bool (decide (p.getD 0 0 = 35))) ∧ w' = w2.alloc (.cells #[.int .u8 35] 5 (1, 2))) :=
          prefix1_at (p.getD 0 0) 35 a1 p.length c1 w2.heap.size _ hc0 (by decide) (by omega) pc g o ea (((below_trans BW2 B3).cell (p := ⟨g, o, none⟩) glt).trans (by simpa using cc)) (cell_marked _ _ _ _)
        have B4 := below_trans B2 B3
        clear PC cc ea glt pc B3
        by_cases h35 : p.getD 0 0 = 35
        · have NX : Hid (LnJ bs w (.slice a2 t'.length c2) u3 m t' ls (w2.alloc (.cells #[.int .u8 35] 5 (1, 2)))) := I.out.skip S.out (by unfold ScM.keep; rw [if_neg hp, if_pos h35]) B4
          rw [decide_eq_true h35] at HP
          clear S I B4 B2 BW2 hc0
          generalize p.length = P at *
          generalize t'.length = T' at *
          go_wp2_with fail
          refine HP.out.mono ?_
          rintro e w3 ⟨rfl, hw⟩; rw [hw]; clear hw w3
          go_wp2_with fail
          go_roundw
          case rel => exact ⟨m, t', ls, rfl, NX⟩
          case measure => exact MLx.out
        · rw [decide_eq_false h35] at HP
          have PLN : Hid (p.length ≤ 1000000000000) := by
            show _ ≤ _
            have h1 := S.out.len
            obtain ⟨k, hk⟩ := I.out.drp
            have h2 := HL.out
            have h3 : t.length ≤ bs.length := by rw [hk, List.length_drop]; omega
            omega
          have CL : Hid (Calls Tryz.prog 23 #[.slice a1 p.length c1] (w2.alloc (.cells #[.int .u8 35] 5 (1, 2))) (NewB (w2.alloc (.cells #[.int .u8 35] 5 (1, 2))) p)) := clone_at p _ _ (PLN.out) (Rd.later S.out.line (below_trans I.out.bel B4))
          have RW : Hid (RowsV w.heap.size (w2.alloc (.cells #[.int .u8 35] 5 (1, 2))) u3 ls) := I.out.rows.later B4
          have BW : Hid (Below w.heap.size w (w2.alloc (.cells #[.int .u8 35] 5 (1, 2)))) := below_trans I.out.bel B4
          have NX : Hid (∀ w2 v', RowsV w.heap.size w2 v' (ls ++ [p]) → Below w.heap.size w w2 → LnJ bs w (.slice a2 t'.length c2) v' m t' (ls ++ [p]) w2) := fun w2 v' r b => I.out.put S.out (by unfold ScM.keep; rw [if_neg hp, if_neg h35]) r b
          clear S I B4 B2 BW2 hc0
          obtain ⟨P, hP⟩ : ∃ P, p.length = P := ⟨_, rfl⟩
          rw [hP] at HP CL d0 ⊢
          clear hP hp
          generalize t'.length = T' at *
          go_wp2_with fail
          refine HP.out.mono ?_
          rintro e w3 ⟨rfl, hw⟩; rw [hw]; clear hw w3
          generalize w2.alloc (.cells #[.int .u8 35] 5 (1, 2)) = w3 at *
          go_wp2_with fail
          refine CL.out.mono ?_
          rintro e w4 ⟨v1, rfl, r1, b1⟩
          have hsw := BW.out.size
          obtain ⟨vs, own1, hvl, PUSH⟩ := RW.out.addNew b1 hsw r1
          have B5 : Below w.heap.size w w4 := below_trans BW.out b1
          have hs1 := B5.size
          have l1 : vs.length + 1 ≤ maxLen := by have := CNT.out; rw [hvl]; unfold maxLen; omega
          have l2 : (vs.length + 1) * 24 ≤ 140737488355328 := by have := CNT.out; rw [hvl]; omega
          have PU : Hid (∀ w2 v', RowV 22 w.heap.size w2 v' (vs ++ [v1]) → w4.grownBy w2 u3.ownBlock → RowsV w.heap.size w2 v' (ls ++ [p])) := PUSH
          obtain ⟨q2, k2, rfl, -, -⟩ := (RowV.rd r1).len
          generalize (p.map bv).length = P2 at *
          clear r1 b1 CL RW BW HP PUSH hvl
          go_wp2_with (at_builtin; refine wpList_pushV rfl (.tmp 25) (.tmp 28) 36 rfl 22 i0 (.slice none 0 0) 24 underS hi hz0 hz1 hz2 rfl w.heap.size _ _ _ rfl rfl own1 hs1 rfl l1 l2 ?_; intro v' w5 hown' hgr)
          have HR : Hid (RowsV w.heap.size w5 v' (ls ++ [p])) := PU.out w5 v' hown' hgr
          have B6 : Below w.heap.size w w5 := below_grown B5 own1 (Nat.le_refl _) hs1 hgr
          have NX2 : Hid (LnJ bs w (.slice a2 T' c2) v' m t' (ls ++ [p]) w5) := NX.out w5 v' HR.out B6
          clear hown' hgr own1 PU NX HR
          go_roundw
          case rel => exact ⟨m, t', ls ++ [p], rfl, NX2⟩
          case measure => exact MLx.out
end Go.Proofs.YtkjnklagjhhhkaaGreatDoor
