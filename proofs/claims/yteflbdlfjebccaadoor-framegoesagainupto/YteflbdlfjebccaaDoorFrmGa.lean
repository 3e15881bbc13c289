/-
  Ours: the walk of FrameGoesAgain.
-/
import Derived.Test.YteflbdlfjebccaaDoorFrmFresh
import Derived.Test.YteflbdlfjebccaaDoorFrmRScan
import Derived.Test.YteflbdlfjebccaaDoorFrmGaT
import Derived.Maps.AppendAt
import Derived.Sort.CutIn
namespace Go.Proofs.YteflbdlfjebccaaDoor
open Go.RowKit Go.Shelf
attribute [local go_sem] Oper.semAt_some

theorem places_lt_aux : ∀ (ps : List (List Nat)) (a : Nat), ∀ x ∈ places a ps, x.1 < a + CrcM.sizeL ps
  | [], _, x, hx => by cases hx
  | p :: ps, a, x, hx => by
    rw [CrcM.sizeL_cons]
    rcases List.mem_cons.1 hx with rfl | h
    · simp only; omega
    · have := places_lt_aux ps _ x h; omega
theorem places_lt (bs : List Nat) : ∀ x ∈ allL bs, x.1 < (CrcM.scan bs).2.1 := fun x hx => by
  have := places_lt_aux _ 0 x hx
  rw [scan_size _ bs (Nat.le_refl _)]
  omega

/-- What was laid ahead of the loops: the boxes of stop, the answer, m, end; what m says. -/
structure GE (w : World) (n0 n5 : Nat) (stop : Int) (am : Option Addr) (cm E : Nat) (MS : List (List Nat)) (W : World) : Prop where
  b3 : Boxed W n0 3 (.int .i64 stop)
  b4 : Boxed W (n0 + 1) 4 (.bool false)
  b5 : Boxed W n5 23 (.slice am MS.length cm)
  b6 : Boxed W (n5 + 1) 3 (.int .i64 (E : Int))
  rm : RowsV (n0 + 2) W (.slice am MS.length cm) MS
  bel : Below w.heap.size w W
  hn0 : w.heap.size = n0
  h5 : n0 + 2 ≤ n5
theorem GE.later {w : World} {n0 n5 : Nat} {stop : Int} {am : Option Addr} {cm E : Nat} {MS : List (List Nat)} {W W' : World} (h : GE w n0 n5 stop am cm E MS W) (b : Below W.heap.size W W') : GE w n0 n5 stop am cm E MS W' :=
  ⟨h.b3.kept (grown_of_below b) (by simp), h.b4.kept (grown_of_below b) (by simp), h.b5.kept (grown_of_below b) (by simp), h.b6.kept (grown_of_below b) (by simp), h.rm.later b, below_trans h.bel b, h.hn0, h.h5⟩
theorem part_size : ∀ (ps : List (List Nat)), ∀ p ∈ ps, p.length ≤ CrcM.sizeL ps
  | [], p, hp => by cases hp
  | q :: ps, p, hp => by
    rw [CrcM.sizeL_cons]
    rcases List.mem_cons.1 hp with rfl | h
    · omega
    · have := part_size ps p h; omega
theorem scan_parts (bs : List Nat) (hl : bs.length ≤ 1048576) : ∀ p ∈ (CrcM.scan bs).1, p.length ≤ 1048576 := fun p hp => by
  have h1 := part_size _ p hp
  have h2 := scan_size _ bs (Nat.le_refl _)
  have h3 := (CrcM.scan_end _ bs (Nat.le_refl _)).1
  omega

/-- What the loops carry: the byte strings so far, each in memory of its own. -/
structure GI (w6 : World) (n8 base : Nat) (ys : List Item) (W : World) : Prop where
  row : ∃ a c, Boxed W n8 23 (.slice a ys.length c) ∧ RowV 22 base W (.slice a ys.length c) (ys.map Item.v)
  it : ∀ x ∈ ys, RowB 5 base W x.v x.p
  ap : ys.Pairwise (fun x y => ∀ g, x.v.ownBlock = some g → y.v.ownBlock ≠ some g)
  bel : Below w6.heap.size w6 W
  size : base ≤ W.heap.size
theorem boxed_nc {W W' : World} {row : Option Nat} {b : Nat} {t : TypeId} {u : Value} (hb : Boxed W b t u) (hg : W.grownBy W' row) (hr : ∀ r, row = some r → ∃ o : Obj, W.heap[r]? = some o ∧ o.isCells = false) : Boxed W' b t u := hb.kept hg (fun e => by
  obtain ⟨o, ho, hc⟩ := hr b e.symm
  rw [show W.heap[b]? = _ from hb] at ho
  cases ho
  cases hc)
theorem GI.grown {w6 : World} {n8 base B : Nat} {ys : List Item} {W W' : World} {row : Option Nat} (hB : w6.heap.size ≤ B) (h : GI w6 n8 base ys W) (hg : W.grownBy W' row) (hr : ∀ r, row = some r → B ≤ r ∧ ∃ o : Obj, W.heap[r]? = some o ∧ o.isCells = false) : GI w6 n8 base ys W' := by
  have hr' : ∀ r, row = some r → ∃ o : Obj, W.heap[r]? = some o ∧ o.isCells = false := fun r e => (hr r e).2
  obtain ⟨a, c, h1, h2⟩ := h.row
  exact ⟨⟨a, c, boxed_nc h1 hg hr', h2.keptNC hg hr'⟩, fun x hx => (h.it x hx).keptNC hg hr', h.ap, h.bel.grown hg h.bel.size (fun k e => Nat.le_trans hB (hr k e).1), Nat.le_trans h.size hg.size⟩
theorem GI.push {w6 W w2 : World} {n8 base k : Nat} {ys : List Item} {x : Item} {a : Option Addr} {c g' cap' : Nat} {tmp : Obj} (h : GI w6 n8 base ys W) (hx : RowB 5 base W x.v x.p) (hap : ∀ y ∈ ys, ∀ g, y.v.ownBlock = some g → x.v.ownBlock ≠ some g)
    (hv : Boxed W n8 23 (.slice a ys.length c)) (hrow : W.ownsRow base 22 1 (.slice a ys.length c) k (ys.map Item.v)) (h6 : w6.heap.size ≤ n8) (h8 : n8 < base)
    (hown' : w2.ownsRow base 22 1 (.slice (some ⟨g', 0, none⟩) (ys.length + 1) cap') (ys.length + 1) (ys.map Item.v ++ [x.v])) (hgrow : (W.alloc tmp).grownBy w2 (Value.slice a ys.length c).ownBlock) :
    Boxed w2 n8 23 (.slice a ys.length c) ∧ KeepsOthers W (w2.setCell ⟨n8, 0, none⟩ (.slice (some ⟨g', 0, none⟩) (ys.length + 1) cap')) ∧
    Kp (fun g => g = n8 ∨ (Value.slice a ys.length c).ownBlock = some g) W (w2.setCell ⟨n8, 0, none⟩ (.slice (some ⟨g', 0, none⟩) (ys.length + 1) cap')) ∧
    Boxed (w2.setCell ⟨n8, 0, none⟩ (.slice (some ⟨g', 0, none⟩) (ys.length + 1) cap')) n8 23 (.slice (some ⟨g', 0, none⟩) (ys.length + 1) cap') ∧
    GI w6 n8 base (ys ++ [x]) (w2.setCell ⟨n8, 0, none⟩ (.slice (some ⟨g', 0, none⟩) (ys.length + 1) cap')) := by
  have b0 : Boxed w2 n8 23 (.slice a ys.length c) := (hv.alloc tmp).kept hgrow (hv.not_row (by decide) hrow)
  generalize hv' : Value.slice (some ⟨g', 0, none⟩) (ys.length + 1) cap' = v' at *
  have b0' : Boxed (w2.setCell ⟨n8, 0, none⟩ v') n8 23 v' := b0.set v'
  have r3 : (w2.setCell ⟨n8, 0, none⟩ v').ownsRow base 22 1 v' (ys.length + 1) (ys.map Item.v ++ [x.v]) := hown'.kept (grownBy_setCell' w2 n8 v') (.inr (b0.not_row (by decide) hown').symm)
  have hM := h.size
  have ro : ∀ g, (Value.slice a ys.length c).ownBlock = some g → base ≤ g := fun g hg => (World.ownsRow.lt hrow g hg).1
  have kp : Kp (fun g => g = n8 ∨ (Value.slice a ys.length c).ownBlock = some g) W (w2.setCell ⟨n8, 0, none⟩ v') := by
    refine Kp.trans (Kp.trans (Kp.of_below (below_alloc W tmp) _) (Kp.of_grown hgrow) (fun g _ h => .inr h)) (Kp.of_grown (grownBy_setCell' w2 n8 v')) (fun g _ h => .inl (by injection h with h; exact h.symm))
  refine ⟨b0, ?_, kp, b0', ?_⟩
  · refine ((KeepsOthers.alloc W tmp).trans (KeepsOthers.of_grownBy hgrow fun j o ej hj => ?_)).trans (KeepsOthers.setCell _ _ _)
    rcases (hrow.alloc tmp).2 with ⟨e, _⟩ | ⟨g, cap, cur, e, _, hgb, _⟩
    · rw [e] at ej; simp [Value.ownBlock] at ej
    · rw [e] at ej
      obtain rfl : g = j := by simpa [Value.ownBlock] using ej
      rw [hgb] at hj; cases hj; rfl
  · have hrv : RowV 22 base W (.slice a ys.length c) (ys.map Item.v) := by
      obtain ⟨q, c2, q1, q2⟩ := h.row
      have e := (show W.heap[n8]? = _ from hv).symm.trans q1
      have : Value.slice a ys.length c = Value.slice q ys.length c2 := by simpa using e
      rw [this]; exact q2
    have keep : ∀ {y : Item}, RowB 5 base W y.v y.p → RowB 5 base (w2.setCell ⟨n8, 0, none⟩ v') y.v y.p := fun {y} hy => RowV.kp hy kp (fun g hg h => by
      rcases h with h | h
      · have := hy.block_ge hg; omega
      · exact rows_ne hrv hy (by decide) h hg)
    refine ⟨⟨some ⟨g', 0, none⟩, cap', ?_, ?_⟩, fun y hy => ?_, ?_, ?_, Nat.le_trans hM kp.size⟩
    · rw [List.length_append, show [x].length = 1 from rfl, hv']; exact b0'
    · rw [List.length_append, show [x].length = 1 from rfl, hv', List.map_append]
      show World.ownsRow _ _ _ _ _ _ _
      rw [show (ys.map Item.v ++ [x].map Item.v).length = ys.length + 1 from by simp]
      exact r3
    · rcases List.mem_append.1 hy with hy | hy
      · exact keep (h.it y hy)
      · simp at hy; subst hy; exact keep hx
    · rw [List.pairwise_append]
      refine ⟨h.ap, List.pairwise_singleton _ _, fun y hy z hz => ?_⟩
      simp at hz; subst hz
      exact hap y hy
    · exact ⟨kp.os.trans h.bel.os, kp.tape.trans h.bel.tape, kp.output.trans h.bel.output, Nat.le_trans h.bel.size kp.size, fun i hi => (kp.block i (by have := h.bel.size; omega) (fun e => by
        rcases e with e | e
        · omega
        · have := ro i e; omega)).trans (h.bel.block i hi)⟩
theorem results_c1 {fn : Func} {p : Tmp} {ty1 : TypeId} (h : fn.results = #[.cell p ty1]) (tmps : Array Value) (w : World) {a : Addr} {x : Value} (hp : tmps.getD p undef = .pointer (some a)) (hx : (loadVar ty1 a).run Tryd.prog w = .ok x w) : (results fn tmps).run Tryd.prog w = .ok x w := by
  have hp' : tmps[p]?.getD undef = .pointer (some a) := by simpa using hp
  simp [results, h, hp', asAddr, hx]
theorem again_fin {w W : World} {b d0 d1 : Nat} (X : Boxed W b 4 (.bool false)) (h0 : W.heap[d0]? = some (.deferred (some []))) (h1 : W.heap[d1]? = some (.deferred (some []))) (hb : Below w.heap.size w W) (hB : w.heap.size ≤ b) (hne : d0 < d1) (hw : w.heap.size ≤ d0) :
    (W.setCell ⟨b, 0, none⟩ (.bool true)).heap[d1]? = some (.deferred (some [])) ∧ ((W.setCell ⟨b, 0, none⟩ (.bool true)).putObj d1 (.deferred none)).heap[d0]? = some (.deferred (some [])) ∧
    (((W.setCell ⟨b, 0, none⟩ (.bool true)).putObj d1 (.deferred none)).putObj d0 (.deferred none)).cell? ⟨b, 0, none⟩ = some (.bool true) ∧ Below w.heap.size w (((W.setCell ⟨b, 0, none⟩ (.bool true)).putObj d1 (.deferred none)).putObj d0 (.deferred none)) := by
  have k1 := KeepsOthers.setCell W ⟨b, 0, none⟩ (.bool true)
  have e1 := k1.same d1 _ h1 rfl
  have e0 := k1.same d0 _ h0 rfl
  have e0' : ((W.setCell ⟨b, 0, none⟩ (.bool true)).putObj d1 (.deferred none)).heap[d0]? = some (.deferred (some [])) := (World.putObj_heap_other (by omega)).trans e0
  have X1 : Boxed (W.setCell ⟨b, 0, none⟩ (.bool true)) b 4 (.bool true) := X.set _
  have nb : ∀ {W' : World} {d : Nat}, Boxed W' b 4 (.bool true) → W'.heap[d]? = some (.deferred (some [])) → Boxed (W'.putObj d (.deferred none)) b 4 (.bool true) := fun hbx hd => hbx.kept (grownBy_putObj' _ _ _) (fun e => by
    injection e with e
    subst e
    rw [show _ = _ from hbx] at hd
    cases hd)
  have b1 : Below w.heap.size w (W.setCell ⟨b, 0, none⟩ (.bool true)) := hb.grown (grownBy_setCell' W b _) hb.size (fun k e => by cases e; exact hB)
  have b2 : Below w.heap.size w ((W.setCell ⟨b, 0, none⟩ (.bool true)).putObj d1 (.deferred none)) := b1.grown (grownBy_putObj' _ d1 _) b1.size (fun k e => by cases e; omega)
  exact ⟨e1, e0', (nb (nb X1 e1) e0').cell, b2.grown (grownBy_putObj' _ d0 _) b2.size (fun k e => by cases e; exact hw)⟩
/-- The region comes to its end. -/
def nrm (K : Act → World → Prop) : Exit → Act → World → Prop
  | .normal, a, w => K a w
  | _, _, _ => False
theorem rows_gi {w8 W : World} {n8 base : Nat} {ys : List Item} {a : Option Addr} {c : Nat} (h : GI w8 n8 base ys W) (hr : RowV 22 base W (.slice a ys.length c) (ys.map Item.v)) : RowsV base W (.slice a ys.length c) (ys.map Item.p) := by
  refine ⟨ys.map Item.v, hr, by simp, fun x hx => ?_, ?_⟩
  · rw [List.zip_map', List.mem_map] at hx
    obtain ⟨y, hy, rfl⟩ := hx
    exact h.it y hy
  · rw [List.pairwise_map]
    exact h.ap
theorem getD_le {ys : List Item} {B : Nat} (h : ∀ y ∈ ys, y.p.length ≤ B) : ∀ i, (ys.map (fun x : Item => x.p.length)).getD i 0 ≤ B := fun i => by
  by_cases hi : i < ys.length
  · rw [List.getD_eq_getElem?_getD, List.getElem?_eq_getElem (by simpa using hi)]
    simp only [List.getElem_map, Option.getD_some]
    exact h _ (List.getElem_mem hi)
  · rw [List.getD_eq_getElem?_getD, List.getElem?_eq_none (by simpa using hi)]; simp
theorem getD_item {ys : List Item} {i : Nat} (hi : i < ys.length) : (ys.map Item.v).getD i undef = ys[i].v ∧ (ys.map (fun x : Item => x.p.length)).getD i 0 = ys[i].p.length := by
  constructor
  · rw [List.getD_eq_getElem?_getD, List.getElem?_eq_getElem (by simpa using hi)]; simp
  · rw [List.getD_eq_getElem?_getD, List.getElem?_eq_getElem (by simpa using hi)]; simp
theorem ti_gi {w8 W : World} {n8 base : Nat} {ys : List Item} {a : Option Addr} {c : Nat} (h : GI w8 n8 base ys W) (hr : RowV 22 base W (.slice a ys.length c) (ys.map Item.v)) : TI base W (.slice a ys.length c) (ys.map Item.v) (ys.map (fun x => x.p.length)) := by
  refine ⟨hr, by simp, fun i hi => ?_, fun i j hi hj hne g h1 h2 => ?_⟩
  · have hi' : i < ys.length := by simpa using hi
    rw [(getD_item hi').1, (getD_item hi').2]
    exact ⟨_, rfl, h.it _ (List.getElem_mem hi')⟩
  · have hi' : i < ys.length := by simpa using hi
    have hj' : j < ys.length := by simpa using hj
    rw [(getD_item hi').1] at h1
    rw [(getD_item hj').1] at h2
    have hp := List.pairwise_iff_getElem.1 h.ap
    rcases Nat.lt_or_gt_of_ne hne with hlt | hlt
    · exact hp i j hi' hj' hlt g h1 h2
    · exact hp j i hj' hi' hlt g h2 h1
theorem tm_gi {w8 W : World} {n8 base : Nat} {ys : List Item} (h : GI w8 n8 base ys W) : ∀ g, TM (ys.map Item.v) (ys.map (fun x : Item => x.p.length)).length g → base ≤ g ∧ ∃ cs, W.heap[g]? = some (.cells cs 5 (0, 0)) := fun g hg => by
  obtain ⟨j, hj, e⟩ := hg
  have hj' : j < ys.length := by simpa using hj
  rw [(getD_item hj').1] at e
  have r := h.it _ (List.getElem_mem hj')
  refine ⟨r.block_ge e, ?_⟩
  rcases r.2 with ⟨hv, _⟩ | ⟨g', cap, cur, hv, _, hh, _⟩
  · rw [hv] at e; cases e
  · rw [hv] at e
    obtain rfl : g' = g := by simpa [Value.ownBlock] using e
    exact ⟨_, hh⟩
theorem boxed_kp {W W' : World} {b n8 : Nat} {u v : Value} {base k : Nat} {xs : List Value} (h : Boxed W b 3 u) (kp : Kp (fun g => g = n8 ∨ v.ownBlock = some g) W W') (hn : n8 < b) (hr : W.ownsRow base 22 1 v k xs) : Boxed W' b 3 u :=
  (kp.block b h.lt (fun hh => by
    rcases hh with hh | hh
    · omega
    · exact h.not_row (by decide) hr hh.symm)).trans h
theorem GI.setbox {w8 W : World} {n8 base b : Nat} {ys : List Item} {u u' : Value} (h : GI w8 n8 base ys W) (hb : Boxed W b 3 u) (hn : n8 < b) (h8 : w8.heap.size ≤ n8) : GI w8 n8 base ys (W.setCell ⟨b, 0, none⟩ u') := by
  have hg := grownBy_setCell' W b u'
  have ne : ∀ {e : TypeId} {base k : Nat} {v : Value} {xs : List Value}, 3 ≠ e → W.ownsRow base e 1 v k xs → ∀ g, v.ownBlock = some g → some b ≠ some g := fun hne hr g hg' e => hb.not_row hne hr (by rw [hg']; exact e)
  obtain ⟨a, c, h1, h2⟩ := h.row
  exact ⟨⟨a, c, h1.other (by omega) u', RowV.kept h2 hg (fun g hg' => ne (by decide) h2 g hg')⟩, fun x hx => RowV.kept (h.it x hx) hg (fun g hg' => ne (by decide) (h.it x hx) g hg'), h.ap, h.bel.grown hg h.bel.size (fun k e => by cases e; omega), Nat.le_trans h.size hg.size⟩
/-- What a round of the second loop must leave. -/
abbrev GF (bs : List Nat) (w8 w9 : World) (n8 n13 : Nat) (ov : Value) (Bo : Nat) (zs pre : List Item) (x : Item) (W : World) (K : Nat → Prop) (W' : World) : Prop :=
  KeepsOthers W (W'.setCell ⟨n13 + 1, 0, none⟩ (.int .i64 ((x.pl : Int) + (x.p.length : Int) + 8))) ∧ Still K W (W'.setCell ⟨n13 + 1, 0, none⟩ (.int .i64 ((x.pl : Int) + (x.p.length : Int) + 8))) ∧ GI w8 n8 (n8 + 1) (zs ++ (pre ++ [x])) (W'.setCell ⟨n13 + 1, 0, none⟩ (.int .i64 ((x.pl : Int) + (x.p.length : Int) + 8))) ∧ Env bs ov Bo (W'.setCell ⟨n13 + 1, 0, none⟩ (.int .i64 ((x.pl : Int) + (x.p.length : Int) + 8))) ∧ (pre ++ [x]).map Item.d <+: allL bs ∧ Boxed (W'.setCell ⟨n13 + 1, 0, none⟩ (.int .i64 ((x.pl : Int) + (x.p.length : Int) + 8))) n13 3 (.int .i64 (zs.length : Int)) ∧ Boxed (W'.setCell ⟨n13 + 1, 0, none⟩ (.int .i64 ((x.pl : Int) + (x.p.length : Int) + 8))) (n13 + 1) 3 (.int .i64 ((endD ((pre ++ [x]).map Item.d) : Nat) : Int)) ∧ (W'.setCell ⟨n13 + 1, 0, none⟩ (.int .i64 ((x.pl : Int) + (x.p.length : Int) + 8))).heap[w9.heap.size]? = some (.deferred (some []))
theorem gf_fin {bs : List Nat} {w8 w9 : World} {n8 n13 : Nat} {ov : Value} {Bo : Nat} {zs pre : List Item} {x : Item} {W Wq W' : World} {K : Nat → Prop} (kq : KeepsOthers W Wq) (sq : Still K W Wq) (yk : KeepsOthers Wq W') (st : Still K Wq W') (yg : GI w8 n8 (n8 + 1) (zs ++ pre ++ [x]) W') (z13 : Boxed W' n13 3 (.int .i64 (zs.length : Int))) (z14 : Boxed W' (n13 + 1) 3 (.int .i64 (x.pl : Int)))
    (zD : W'.heap[w9.heap.size]? = some (.deferred (some []))) (zE : Env bs ov Bo W') (nx : (pre ++ [x]).map Item.d <+: allL bs ∧ endD ((pre ++ [x]).map Item.d) = x.pl + x.p.length + 8) (h13 : n8 < n13) (h8 : w8.heap.size ≤ n8) (hK : ∀ k, K k → k < n13) (k0 : K 0) (k1 : K Bo) (k2 : ∀ g, ov.ownBlock = some g → K g) : GF bs w8 w9 n8 n13 ov Bo zs pre x W K W' := by
  have k3 : KeepsOthers W' (W'.setCell ⟨n13 + 1, 0, none⟩ (.int .i64 ((x.pl : Int) + (x.p.length : Int) + 8))) := KeepsOthers.setCell _ _ _
  have s3 : Still K W' (W'.setCell ⟨n13 + 1, 0, none⟩ (.int .i64 ((x.pl : Int) + (x.p.length : Int) + 8))) := ⟨(grownBy_setCell' W' (n13 + 1) _).size, fun k hk => Below.heap_setCell _ _ _ _ (by have := hK k hk; simp; omega)⟩
  refine ⟨(kq.trans yk).trans k3, (sq.trans st).trans s3, by rw [← List.append_assoc]; exact yg.setbox z14 (by omega) h8, zE.still s3 k0 k1 k2, nx.1, z13.other (by omega) _, ?_, k3.same _ _ zD rfl⟩
  rw [nx.2]
  have := z14.set (.int .i64 ((x.pl : Int) + (x.p.length : Int) + 8))
  simpa using this
theorem prefix_ps {zs : List Item} {MS : List (List Nat)} {M : Nat} (h : zs.map Item.d <+: places 0 MS) (hM : MS.length = M) : zs.length ≤ M ∧ zs.map Item.p = MS.take zs.length := by
  have hl := h.length_le
  rw [places_len, List.length_map, hM] at hl
  refine ⟨hl, ?_⟩
  obtain ⟨r, hr⟩ := h
  have e := congrArg (List.map (·.2)) hr
  rw [places_snd, List.map_append, List.map_map] at e
  rw [← e, List.take_append_of_le_length (by simp), List.take_of_length_le (by simp)]
  rfl
theorem places_next : ∀ (ps : List (List Nat)) (a : Nat) (pre : List (Nat × List Nat)) (x : Nat × List Nat), (pre ++ [x]) <+: places a ps → x.1 = (if pre = [] then a else endD pre) ∧ ps[pre.length]? = some x.2
  | [], a, pre, x, h => by have := h.length_le; simp [places] at this
  | p :: ps, a, [], x, h => by
    simp only [places, List.nil_append, List.cons_prefix_cons] at h
    rw [h.1]; simp
  | p :: ps, a, y :: pre, x, h => by
    simp only [places, List.cons_append, List.cons_prefix_cons] at h
    obtain ⟨h1, h2⟩ := places_next ps _ pre x h.2
    refine ⟨?_, by simpa using h2⟩
    rw [if_neg (by simp)]
    rcases List.eq_nil_or_concat pre with e | ⟨q, z, e⟩
    · subst e
      rw [if_pos rfl] at h1
      rw [h1, h.1]; rfl
    · rw [List.concat_eq_append] at e
      subst e
      rw [if_neg (by simp)] at h1
      rw [h1, endD_snoc, ← List.cons_append, endD_snoc]
theorem gi_still {K : Nat → Prop} {n8 : Nat} {W W' : World} {v : Value} (hK : ∀ k, K k → k < n8) (hW : n8 < W.heap.size) (kp : Kp (fun g => g = n8 ∨ v.ownBlock = some g) W W') (hv : ∀ g, v.ownBlock = some g → n8 + 1 ≤ g) : Still K W W' :=
  ⟨kp.size, fun k hk => kp.block k (by have := hK k hk; omega) (fun h => by
    have := hK k hk
    rcases h with h | h
    · omega
    · have := hv k h; omega)⟩
theorem env_own {bs : List Nat} {ov : Value} {Bo : Nat} {W W' : World} {row : Option Nat} (h : Env bs ov Bo W) (hg : W.grownBy W' row) (hr : ∀ r, row = some r → ∃ o : Obj, W.heap[r]? = some o ∧ o.isCells = false) : Env bs ov Bo W' := by
  have nc : ∀ g i u, W.cell? ⟨g, i, none⟩ = some u → W'.cell? ⟨g, i, none⟩ = some u := fun g i u hc => by
    have lt := World.block_lt_of_cell? W _ hc
    refine (World.cell?_of_block (hg.block g lt (fun e => ?_))).trans hc
    obtain ⟨o, ho, hcc⟩ := hr g e.symm
    have hc' := hc
    cases o <;> simp_all [World.cell?, Obj.isCells]
  refine ⟨?_, nc _ _ _ h.box, fun m hm => nc _ _ _ (h.tab m hm)⟩
  obtain ⟨ao, cap, e, h1, h2, h3⟩ := h.rd
  refine ⟨ao, cap, e, h1, h2, fun i hi => ?_⟩
  obtain ⟨g, o, e1, lt, hc⟩ := h3 i hi
  exact ⟨g, o, e1, Nat.lt_of_lt_of_le lt hg.size, nc _ _ _ hc⟩

set_option maxRecDepth 100000 in
set_option maxHeartbeats 4000000 in
theorem again_core (bs : List Nat) (stop : Int) (v : Value) (w : World) (hb : ∀ b ∈ bs, b < 256) (hl : bs.length ≤ 1048576) (h : RdB w v bs) (hT : TabS w) (h80 : (CrcM.scan bs).1.length ≤ 80) :
    Calls Tryd.prog 3 #[v, .int .i64 stop] w fun e w' => e = .returned (.bool true) ∧ Below w.heap.size w w' := by
  obtain ⟨i0, hi, hz0, hz1, hz2⟩ := info_parts infoS
  have SCN : Hid (∀ w', Below w.heap.size w w' → Calls Tryd.prog 4 #[v] w' (ScanIs bs w')) := fun w' hb' => rscan_at bs v w' hb (by omega) (Rd.later h hb')
  have CPY : Hid (∀ w', Below w.heap.size w w' → Calls Tryd.prog 5 #[v] w' (NewB w' bs)) := fun w' hb' => copied_at bs v w' (by omega) (Rd.later h hb')
  have ALL : Hid (∀ w' v', RdB w' v' bs → Calls Tryd.prog 6 #[v'] w' fun e w'' => ∃ Bo ov, e = .returned (.func (.func 15) #[] #[.pointer (some ⟨Bo, 0, none⟩)]) ∧ AllIs bs w' Bo ov w'') := fun w' v' hr => all_at bs v' w' (by omega) hr
  have SCF : Hid (∀ w' v', TabS w' → RdB w' v' bs → Calls Tryd.prog 10 #[v'] w' (ScanIs bs w')) := fun w' v' ht hr => scan_at bs v' w' hb (by omega) hr ht
  have HB : Hid (∀ b ∈ bs, b < 256) := hb
  have ENVOWN : Hid (∀ {ov : Value} {Bo : Nat} {B : Nat} (W W' : World) (row : Option Nat), Env bs ov Bo W → W.grownBy W' row → (∀ r, row = some r → B ≤ r ∧ ∃ o : Obj, W.heap[r]? = some o ∧ o.isCells = false) → Env bs ov Bo W') := fun W W' row h hg hr => env_own h hg (fun r e => (hr r e).2)
  have HT : Hid (∀ w', Below w.heap.size w w' → TabS w') := fun w' hb' => hT.below hb'
  have GLT : Hid (0 < w.heap.size) := hT.lt
  have RD : Hid (∀ w', Below w.heap.size w w' → RdB w' v bs) := fun w' hb' => Rd.later h hb'
  obtain ⟨ao, cap, rfl, hcap, hnil⟩ := h.len
  have hl0 : (bs.map bv).length = bs.length := List.length_map ..
  rw [hl0] at SCN CPY RD hcap ⊢
  have HLL : Hid (bs.length ≤ 1048576) := hl
  have d1 : decide ((6000000 : Int) < (bs.length : Int)) = false := decide_eq_false (by omega)
  clear hb hT h hl0 hnil
  refine (callsIn_wide (n := 4)).1 ?_
  refine callsIn_of_wp_marks Tryd.func3 rfl trivial ?_ rfl
  simp only [Tryd.ntmps3, List.size_toArray, List.length_cons, List.length_nil, Nat.reduceAdd, Nat.reduceSub, Array.replicate_succ, Array.replicate_zero, List.push_toArray, List.append_toArray, List.nil_append, List.cons_append]
  obtain ⟨n0, hn0⟩ : ∃ n, w.heap.size = n := ⟨_, rfl⟩
  have HN0 : Hid (w.heap.size = n0) := hn0
  have BB : Hid (Below w.heap.size w ((w.alloc (.cells #[.int .i64 stop] 3)).alloc (.cells #[.bool false] 4))) := below_trans (below_alloc w _) (below_alloc (w.alloc _) _)
  have X3 : Hid (Boxed ((w.alloc (.cells #[.int .i64 stop] 3)).alloc (.cells #[.bool false] 4)) w.heap.size 3 (.int .i64 stop)) := (Boxed.new w 3 (.int .i64 stop)).alloc _
  have X4 : Hid (Boxed ((w.alloc (.cells #[.int .i64 stop] 3)).alloc (.cells #[.bool false] 4)) (w.heap.size + 1) 4 (.bool false)) := by
    have := Boxed.new (w.alloc (.cells #[.int .i64 stop] 3)) 4 (.bool false)
    rwa [World.size_alloc] at this
  rw [hn0] at X3 X4
  clear hn0
  gi_wp2
  refine ⟨trivial, (callsIn_wide.2 (SCN.out _ BB.out)).mono ?_⟩
  rintro e w1 ⟨am, cm, rfl, rm, b1⟩
  rw [HN0.out]
  have B1 : Hid (Below w.heap.size w w1) := below_trans BB.out b1
  have Y3 : Hid (Boxed w1 n0 3 (.int .i64 stop)) := X3.out.kept (grown_of_below b1) (by simp)
  have Y4 : Hid (Boxed w1 (n0 + 1) 4 (.bool false)) := X4.out.kept (grown_of_below b1) (by simp)
  have RM : Hid (RowsV (n0 + 2) w1 (.slice am (CrcM.scan bs).1.length cm) (CrcM.scan bs).1) := by
    have := rm
    simp only [World.size_alloc, HN0.out] at this
    exact this
  clear b1 rm X3 X4 BB SCN
  have HMS : Hid (allL bs = places 0 (CrcM.scan bs).1) := rfl
  have HEN : Hid (endD (allL bs) = (CrcM.scan bs).2.1) := endD_all bs
  have HPL : Hid (∀ x ∈ allL bs, x.1 < (CrcM.scan bs).2.1) := places_lt bs
  have HLM : Hid (∀ p ∈ (CrcM.scan bs).1, p.length ≤ 1048576) := scan_parts bs hl
  generalize (CrcM.scan bs).1 = MS at *
  generalize (CrcM.scan bs).2.1 = E at *
  generalize (CrcM.scan bs).2.2 = T at *
  obtain ⟨M, hM⟩ : ∃ M, MS.length = M := ⟨_, rfl⟩
  have HM : Hid (MS.length = M) := hM
  rw [hM] at RM h80 ⊢
  clear hM
  have d2 : decide ((80 : Int) < (M : Int)) = false := decide_eq_false (by omega)
  gi_wp2
  have E6 : Hid (GE w n0 w1.heap.size stop am cm E MS ((w1.alloc (.cells #[.slice am M cm] 23)).alloc (.cells #[.int .i64 (E : Int)] 3))) := by
    have q5 := Boxed.new w1 23 (.slice am M cm)
    have q6 := Boxed.new (w1.alloc (.cells #[.slice am M cm] 23)) 3 (.int .i64 (E : Int))
    rw [World.size_alloc] at q6
    have b6 : Below w1.heap.size w1 ((w1.alloc (.cells #[.slice am M cm] 23)).alloc (.cells #[.int .i64 (E : Int)] 3)) := below_trans (below_alloc w1 _) (below_alloc (w1.alloc _) _)
    exact ⟨(Y3.out.alloc _).alloc _, (Y4.out.alloc _).alloc _, by rw [HM.out]; exact q5.alloc _, q6, by rw [HM.out]; exact RM.out.later b6, below_trans B1.out b6, HN0.out, by have := Y4.out.lt; omega⟩
  have S6 : Hid (((w1.alloc (.cells #[.slice am M cm] 23)).alloc (.cells #[.int .i64 (E : Int)] 3)).heap.size = w1.heap.size + 2) := by show _ = _; simp
  generalize hw6 : (w1.alloc (.cells #[.slice am M cm] 23)).alloc (.cells #[.int .i64 (E : Int)] 3) = w6 at *
  clear Y3 Y4 RM B1
  obtain ⟨n5, hn5⟩ : ∃ n, w1.heap.size = n := ⟨_, rfl⟩
  rw [hn5] at E6 S6 ⊢
  clear hn5 hw6
  refine ⟨trivial, (callsIn_wide.2 (CPY.out _ E6.out.bel)).mono ?_⟩
  rintro e w7 ⟨v8, rfl, r7, b7⟩
  have R7 : Hid (RowB 5 w6.heap.size w7 v8 bs) := r7
  have B7 : Hid (Below w6.heap.size w6 w7) := b7
  clear r7 b7 CPY
  gi_wp2
  refine ⟨trivial, (callsIn_wide.2 (ALL.out _ _ (RowV.rd R7.out))).mono ?_⟩
  rintro e w8 ⟨Bo, ov, rfl, hA⟩
  have A8 : Hid (AllIs bs w7 Bo ov w8) := hA
  clear hA ALL
  have fnil : ∀ w', (binOp .eql 28 (.func (.func 15) #[] #[.pointer (some ⟨Bo, 0, none⟩)]) .nilFunc).run Tryd.prog w' = .ok (.bool false) w' := fun w' => func_nil _ _ _ w'
  gi_wp2
  obtain ⟨n8, hn8⟩ : ∃ n, w8.heap.size = n := ⟨_, rfl⟩
  have B8 : Hid (Below w6.heap.size w6 w8) := below_trans B7.out A8.out.bel
  have S9 : Hid ((w8.alloc (.cells #[.slice none 0 0] 23)).heap.size = n8 + 1) := by show _ = _; rw [World.size_alloc, hn8]
  have B9 : Hid (Below w6.heap.size w6 (w8.alloc (.cells #[.slice none 0 0] 23))) := below_trans B8.out (below_alloc w8 _)
  have I9 : Hid (GI w8 n8 (n8 + 1) [] (w8.alloc (.cells #[.slice none 0 0] 23))) := ⟨⟨none, 0, by rw [← hn8]; exact Boxed.new w8 23 (.slice none 0 0), RowV.nil _ _ _⟩, (fun x hx => nomatch hx), List.Pairwise.nil, below_alloc w8 _, by rw [S9.out]; exact Nat.le_refl _⟩
  have NV : Hid (Env bs ov Bo (w8.alloc (.cells #[.slice none 0 0] 23))) := ((⟨RowV.rd A8.out.own, A8.out.box, HT.out _ (below_trans E6.out.bel B8.out)⟩ : Env bs ov Bo w8)).below (below_alloc w8 _)
  have KN : Hid (∀ k, (k = 0 ∨ k = Bo ∨ ov.ownBlock = some k) → k < n8) := fun k hk => by
    rw [← hn8]
    rcases hk with rfl | rfl | hk
    · exact (HT.out _ (below_trans E6.out.bel B8.out)).lt
    · exact A8.out.hi
    · exact A8.out.own.block_lt hk
  have H68 : Hid (w8.heap.size ≤ n8) := by show _ ≤ _; rw [← hn8]; exact Nat.le_refl _
  have H88 : Hid (w8.heap.size = n8) := hn8
  have R8 : Hid (RowB 5 w6.heap.size w8 v8 bs) := RowV.later R7.out A8.out.bel
  have V8 : Hid (∀ g, v8.ownBlock = some g → w6.heap.size ≤ g ∧ g < n8) := fun g hg => ⟨R7.out.block_ge hg, by rw [← hn8]; exact R8.out.block_lt hg⟩
  rw [hn8]
  generalize hw9 : w8.alloc (.cells #[.slice none 0 0] 23) = w9 at *
  have MINE : Hid (∀ W, Below w8.heap.size w8 W → RdB W v8 bs) := fun W hb => Rd.later (RowV.rd R8.out) hb
  have FILE : Hid (∀ W, Below w8.heap.size w8 W → RdB W (.slice ao bs.length cap) bs) := fun W hb => RD.out W (below_trans (below_trans E6.out.bel B8.out) hb)
  have TABL : Hid (∀ W, Below w8.heap.size w8 W → TabS W) := fun W hb => HT.out W (below_trans (below_trans E6.out.bel B8.out) hb)
  have NW8 : Hid (w.heap.size ≤ w8.heap.size) := (below_trans E6.out.bel B8.out).size
  have GE9 : Hid (∀ W, Below w8.heap.size w8 W → GE w n0 n5 stop am cm E MS W) := fun W hb => E6.out.later (below_trans B8.out hb)
  clear hn8 hw9 A8 B8 R8 R7 B7 fnil
  rename_i K hK
  have SEQ : Hid (∀ W, Env bs ov Bo W → SeqTells Tryd.prog 15 #[.pointer (some ⟨Bo, 0, none⟩)] Item.enc (ItemOk bs W.heap.size) (fun k => k = 0 ∨ k = Bo ∨ ov.ownBlock = some k) (fun xs => xs.map Item.d = allL bs) (fun _ => True) W) := fun W hE => iter_tells bs ov Bo W (fun k => k = 0 ∨ k = Bo ∨ ov.ownBlock = some k) HB.out (by have := HLL.out; omega) hE (.inl rfl) (.inr (.inl rfl)) (fun g hg => .inr (.inr hg))
  have CONT : ∀ (zs : List Item) (W : World), GI w8 n8 (n8 + 1) zs W → zs.map Item.d <+: allL bs → W.heap[w9.heap.size]? = some (.deferred (some [])) → Env bs ov Bo W → K { tmps := #[.slice ao bs.length cap, .int .i64 stop, undef, .pointer (some ⟨n0, 0, none⟩), .pointer (some ⟨n0 + 1, 0, none⟩), .pointer (some ⟨n5, 0, none⟩), .pointer (some ⟨n5 + 1, 0, none⟩), .int .i64 (T : Int), v8, .func (.func 15) #[] #[.pointer (some ⟨Bo, 0, none⟩)], .pointer (some ⟨n8, 0, none⟩), undef, undef, undef, undef, undef, undef, undef, .tuple #[.slice am M cm, .int .i64 (E : Int), .int .i64 (T : Int)], .slice ao bs.length cap, .tuple #[.slice am M cm, .int .i64 (E : Int), .int .i64 (T : Int)], .slice am M cm, .int .i64 (E : Int), .int .i64 (T : Int), .slice ao bs.length cap, .int .i64 (bs.length : Int), .bool false, .bool false, .slice am M cm, .int .i64 (M : Int), .bool false, .bool false, .slice ao bs.length cap, v8, v8, .func (.func 15) #[] #[.pointer (some ⟨Bo, 0, none⟩)], .func (.func 15) #[] #[.pointer (some ⟨Bo, 0, none⟩)], .bool false, .func (.func 15) #[] #[.pointer (some ⟨Bo, 0, none⟩)], undef, undef, undef, undef, undef, undef, undef, undef, undef, undef, undef, undef, undef, undef, undef, undef, undef, undef, undef, undef, undef, undef, undef, undef, undef, undef, undef, undef, undef, undef, undef, undef, undef, undef, undef, undef, undef, undef, undef, undef, undef, undef, undef, undef, undef, undef, undef, undef, undef, undef, undef, undef, undef, undef, undef, undef, undef, undef, undef, undef, undef, undef, undef, undef, undef, undef, undef, undef, undef, undef, undef, undef, undef, undef, undef, undef, undef, undef, undef, undef, undef, undef, undef, undef, undef, undef, undef, undef, undef, undef, undef], defers := [{ target := .collected w9.heap.size, args := #[] }] } W := by
    intro zs W hI hp hD hE
    refine hK _ _ ?_
    obtain ⟨a, c, hv, hrow⟩ := hI.row
    have hc := hv.cell
    have HI0 : Hid (GI w8 n8 (n8 + 1) zs W) := hI
    have HP0 : Hid (zs.map Item.d <+: allL bs) := hp
    have HE0 : Hid (Env bs ov Bo W) := hE
    have HD0 : Hid (W.heap[w9.heap.size]? = some (.deferred (some []))) := hD
    clear hI hp hE hD hrow
    gi_wp2
    obtain ⟨n13, hn13⟩ : ∃ n, W.heap.size = n := ⟨_, rfl⟩
    have bS : Below W.heap.size W ((W.alloc (.cells #[.int .i64 (zs.length : Int)] 3)).alloc (.cells #[.int .i64 0] 3)) := below_trans (below_alloc W _) (below_alloc (W.alloc _) _)
    have SS : Hid (((W.alloc (.cells #[.int .i64 (zs.length : Int)] 3)).alloc (.cells #[.int .i64 0] 3)).heap.size = n13 + 2) := by show _ = _; simp [hn13]
    have X13 : Hid (Boxed ((W.alloc (.cells #[.int .i64 (zs.length : Int)] 3)).alloc (.cells #[.int .i64 0] 3)) n13 3 (.int .i64 (zs.length : Int))) := by
      have := (Boxed.new W 3 (.int .i64 (zs.length : Int))).alloc (.cells #[.int .i64 0] 3)
      rwa [hn13] at this
    have X14 : Hid (Boxed ((W.alloc (.cells #[.int .i64 (zs.length : Int)] 3)).alloc (.cells #[.int .i64 0] 3)) (n13 + 1) 3 (.int .i64 ((endD (([] : List Item).map Item.d) : Nat) : Int))) := by
      have := Boxed.new (W.alloc (.cells #[.int .i64 (zs.length : Int)] 3)) 3 (.int .i64 0)
      rwa [World.size_alloc, hn13] at this
    have IS : Hid (GI w8 n8 (n8 + 1) (zs ++ []) ((W.alloc (.cells #[.int .i64 (zs.length : Int)] 3)).alloc (.cells #[.int .i64 0] 3))) := by
      rw [List.append_nil]
      exact HI0.out.grown (B := w8.heap.size) (Nat.le_refl _) (grown_of_below bS) (fun r e => by cases e)
    have ES : Hid (Env bs ov Bo ((W.alloc (.cells #[.int .i64 (zs.length : Int)] 3)).alloc (.cells #[.int .i64 0] 3))) := HE0.out.below bS
    have DS : Hid (((W.alloc (.cells #[.int .i64 (zs.length : Int)] 3)).alloc (.cells #[.int .i64 0] 3)).heap[w9.heap.size]? = some (.deferred (some []))) := (bS.block _ (Array.getElem?_eq_some_iff.1 HD0.out).1).trans HD0.out
    have ZB : Hid (∀ y ∈ zs, ∀ g, y.v.ownBlock = some g → g < n13) := fun y hy g hg => by rw [← hn13]; exact (HI0.out.it y hy).block_lt hg
    have N89 : Hid (n8 + 1 ≤ n13 ∧ w9.heap.size < n13) := ⟨by rw [← hn13]; exact HI0.out.size, by rw [← hn13]; exact (Array.getElem?_eq_some_iff.1 HD0.out).1⟩
    have ZL : Hid (zs.length ≤ M ∧ zs.map Item.p = MS.take zs.length) := prefix_ps (by have := HP0.out; rw [HMS.out] at this; exact this) HM.out
    rw [hn13]
    generalize (W.alloc (.cells #[.int .i64 (zs.length : Int)] 3)).alloc (.cells #[.int .i64 0] 3) = wS at *
    clear hn13 bS hv hc HI0 HE0 HD0
    have seq := SEQ.out wS ES.out
    refine wpIn_range_tells (n := 2) rfl (enters_of Tryd.func15 (by kernel_rfl) rfl) seq (Below.refl _ _) (fun k hk => ?_) (fun _ => rfl) (fun pre W => GI w8 n8 (n8 + 1) (zs ++ pre) W ∧ Env bs ov Bo W ∧ pre.map Item.d <+: allL bs ∧ Boxed W n13 3 (.int .i64 (zs.length : Int)) ∧ Boxed W (n13 + 1) 3 (.int .i64 ((endD (pre.map Item.d) : Nat) : Int)) ∧ W.heap[w9.heap.size]? = some (.deferred (some []))) (fun c pre W => False)
      (fun pre W W' row h hg hr => ⟨h.1.grown (by have := H68.out; have := SS.out; have := N89.out; omega) hg hr, ENVOWN.out _ _ _ h.2.1 hg hr, h.2.2.1, boxed_nc h.2.2.2.1 hg (fun r e => (hr r e).2), boxed_nc h.2.2.2.2.1 hg (fun r e => (hr r e).2), (hg.block _ (Array.getElem?_eq_some_iff.1 h.2.2.2.2.2).1 (fun e => by have := (hr _ e.symm).1; have := SS.out; have := N89.out; omega)).trans h.2.2.2.2.2⟩) (fun c pre W W' row h hg hr => h) itemOk_own ⟨IS.out, ES.out, List.nil_prefix, X13.out, X14.out, DS.out⟩
      (fun x => { tmps := #[.slice ao bs.length cap, .int .i64 stop, undef, .pointer (some ⟨n0, 0, none⟩), .pointer (some ⟨n0 + 1, 0, none⟩), .pointer (some ⟨n5, 0, none⟩), .pointer (some ⟨n5 + 1, 0, none⟩), .int .i64 (T : Int), v8, .func (.func 15) #[] #[.pointer (some ⟨Bo, 0, none⟩)], .pointer (some ⟨n8, 0, none⟩), undef, undef, .pointer (some ⟨n13, 0, none⟩), .pointer (some ⟨n13 + 1, 0, none⟩), .int .i64 (x.pl : Int), .slice x.a x.p.length x.c, undef, .tuple #[.slice am M cm, .int .i64 (E : Int), .int .i64 (T : Int)], .slice ao bs.length cap, .tuple #[.slice am M cm, .int .i64 (E : Int), .int .i64 (T : Int)], .slice am M cm, .int .i64 (E : Int), .int .i64 (T : Int), .slice ao bs.length cap, .int .i64 (bs.length : Int), .bool false, .bool false, .slice am M cm, .int .i64 (M : Int), .bool false, .bool false, .slice ao bs.length cap, v8, v8, .func (.func 15) #[] #[.pointer (some ⟨Bo, 0, none⟩)], .func (.func 15) #[] #[.pointer (some ⟨Bo, 0, none⟩)], .bool false, .func (.func 15) #[] #[.pointer (some ⟨Bo, 0, none⟩)], undef, undef, undef, undef, undef, undef, undef, undef, undef, undef, undef, undef, undef, undef, undef, undef, undef, undef, undef, undef, undef, undef, undef, undef, .slice a zs.length c, .int .i64 (zs.length : Int), .func (.func 15) #[] #[.pointer (some ⟨Bo, 0, none⟩)], .int .i64 (x.pl : Int), .slice x.a x.p.length x.c, undef, undef, undef, undef, undef, undef, undef, undef, undef, undef, undef, undef, undef, undef, undef, undef, undef, undef, undef, undef, undef, undef, undef, undef, undef, undef, undef, undef, undef, undef, undef, undef, undef, undef, undef, undef, undef, undef, undef, undef, undef, undef, undef, undef, undef, undef, undef, undef, undef, undef, undef, undef, undef, undef, undef, undef, undef, undef, undef, undef, undef, undef], defers := [] }) ?assign ?body ?done ?stop
    · have := KN.out k hk; rw [SS.out]; have := N89.out; omega
    case assign =>
      intro l x W C hC
      unfold Item.enc
      gi_wp2
      exact hC
    case body =>
      rintro l pre x W ⟨hI, hE, hp, h13, h14, hD⟩ hP
      rw [SS.out] at hP
      have HA : Hid (∀ y ∈ zs ++ pre, ∀ g, y.v.ownBlock = some g → x.v.ownBlock ≠ some g) := fun y hy g hg e => by
        rcases List.mem_append.1 hy with hy | hy
        · have := ZB.out y hy g hg
          have := hP.row.block_ge e
          omega
        · exact hP.apart y hy g hg e
      have hl2 : (zs ++ pre).length = zs.length + pre.length := List.length_append
      obtain ⟨ys, hys⟩ : ∃ ys, zs ++ pre = ys := ⟨_, rfl⟩
      rw [hys] at hI HA hl2
      have HY : Hid (zs ++ pre = ys) := hys
      clear hys
      obtain ⟨a2, c2, hv, hrow⟩ := hI.row
      have hrow' : W.ownsRow (n8 + 1) 22 1 (.slice a2 ys.length c2) ys.length (ys.map Item.v) := by have := hrow; rw [RowV, List.length_map] at this; exact this
      have ge := GE9.out W hI.bel
      have e5 := ge.b5.cell
      rw [HM.out] at e5
      have hc := hv.cell
      have hf := hv.frozen
      have hM := hI.size
      have big := HLL.out
      have n89 := N89.out
      obtain ⟨xpl, xp⟩ := places_next MS 0 (pre.map Item.d) x.d (by have := hP.next; rw [HMS.out] at this; exact this)
      have xpl' : endD (pre.map Item.d) = x.pl := by
        have : x.d.1 = x.pl := rfl
        rw [← this, xpl]
        split
        · rename_i h0; rw [h0]; rfl
        · rfl
      rw [xpl'] at h14
      have xp' : MS.getD pre.length [] = x.p := by rw [List.length_map] at xp; rw [List.getD_eq_getElem?_getD, xp]; rfl
      have nM : pre.length < M := by
        have h1 := hP.next.length_le
        rw [HMS.out, places_len, HM.out] at h1
        simp at h1; omega
      obtain ⟨_, mc, mat⟩ := (ge.rm.rd).at
      obtain ⟨gm, om, a', c', em, dm, rdm⟩ := mat pre.length (by rw [HM.out]; exact nM)
      subst em
      rw [xp'] at dm rdm
      have h13c := h13.cell
      have h14c := h14.cell
      have t3 : decide ((M : Int) ≤ (pre.length : Int)) = false := decide_eq_false (by omega)
      have t4 : (ys.length : Int) - (zs.length : Int) = (pre.length : Int) := by omega
      have one : ∀ u ∈ [x.v], u.oneCell' = true := fun u hu => by simp at hu; subst hu; rfl
      have zl := ZL.out.1
      have b1 : ys.length + 1 ≤ maxLen := by unfold maxLen; omega
      have b2 : (ys.length + 1) * 24 ≤ 140737488355328 := by omega
      have HP : Hid (ItemOk bs (n13 + 2) pre x W) := hP
      have HI : Hid (GI w8 n8 (n8 + 1) ys W) := hI
      have HE : Hid (Env bs ov Bo W) := hE
      have HV : Hid (Boxed W n8 23 (.slice a2 ys.length c2)) := hv
      have H13 : Hid (Boxed W n13 3 (.int .i64 (zs.length : Int))) := h13
      have H14 : Hid (Boxed W (n13 + 1) 3 (.int .i64 (x.pl : Int))) := h14
      have HD : Hid (W.heap[w9.heap.size]? = some (.deferred (some []))) := hD
      have HX : Hid (RowB 5 (n8 + 1) W x.v x.p) := hP.row.mono (by omega)
      have SAM : Hid (Calls Tryd.prog 7 #[.slice x.a x.p.length x.c, .slice a' x.p.length c'] W fun e w' => e = .returned (.bool true) ∧ ∃ n, w' = W.drewN n) := by
        refine (same_at x.p x.p _ _ W (by have := hP.room; omega) (RowV.rd hP.row) rdm).mono ?_
        rintro e w' ⟨rfl, h⟩
        exact ⟨by simp, h⟩
      clear hl2
      clear hP hI hE hp ge hv hrow seq h13 h14 hD rdm mat xpl xpl' xp xp'
      gi_wp2
      refine ⟨trivial, (callsIn_wide.2 SAM.out).mono ?_⟩
      rintro e w2 ⟨rfl, nq, rfl⟩
      have hbq : Below W.heap.size W (W.drewN nq) := below_drewN (Below.refl _ _) nq
      have hgq := grown_of_below hbq
      have KQ : Hid (KeepsOthers W (W.drewN nq)) := KeepsOthers.of_grownBy hgq (fun j o e => by cases e)
      have SQ : Hid (Still (fun k => k = 0 ∨ k = Bo ∨ ov.ownBlock = some k) W (W.drewN nq)) := ⟨Nat.le_refl _, fun _ _ => rfl⟩
      have HIq : Hid (GI w8 n8 (n8 + 1) ys (W.drewN nq)) := HI.out.grown (B := w8.heap.size) (Nat.le_refl _) hgq (fun r e => by cases e)
      have hrowq : (W.drewN nq).ownsRow (n8 + 1) 22 1 (.slice a2 ys.length c2) ys.length (ys.map Item.v) := hrow'
      have HVq : Hid (Boxed (W.drewN nq) n8 23 (.slice a2 ys.length c2)) := HV.out
      have H13q : Hid (Boxed (W.drewN nq) n13 3 (.int .i64 (zs.length : Int))) := H13.out
      have H14q : Hid (Boxed (W.drewN nq) (n13 + 1) 3 (.int .i64 (x.pl : Int))) := H14.out
      have HDq : Hid ((W.drewN nq).heap[w9.heap.size]? = some (.deferred (some []))) := HD.out
      have HXq : Hid (RowB 5 (n8 + 1) (W.drewN nq) x.v x.p) := HX.out
      have HEq : Hid (Env bs ov Bo (W.drewN nq)) := HE.out.below hbq
      have hMq : n8 + 1 ≤ (W.drewN nq).heap.size := hM
      have hcq := HVq.out.cell
      have hfq := HVq.out.frozen
      have h14cq := H14q.out.cell
      have rm := HP.out.room
      have NXT : Hid ((pre ++ [x]).map Item.d <+: allL bs ∧ endD ((pre ++ [x]).map Item.d) = x.pl + x.p.length + 8) := ⟨by rw [List.map_append]; exact HP.out.next, by rw [List.map_append]; exact endD_snoc _ _⟩
      clear hbq hgq HI hrow' HV H13 H14 HD HX HE HP SAM hc hf h13c h14c hM dm e5
      generalize W.drewN nq = Wq at *
      gi_upto_region 25 with (gi_at_builtin; refine wpListIn_append_own _ rfl _ _ 23 rfl (n8 + 1) 22 i0 (.slice none 0 0) 1 24 underS hi hz0 hz1 hz2 rfl (by decide) _ _ _ rfl (hrowq.alloc _) ⟨Wq.heap.size, 0, none⟩ 1 1 [x.v] rfl rfl (cell_one_new _ _ _) one b1 b2 (by simp; omega) ?_; intro v' w2 hown' hgrow _; obtain ⟨g', cap', rfl⟩ := ownsRow_succ hown'; obtain ⟨y0, yk, yp, yb, yg⟩ := HIq.out.push HXq.out HA.out HVq.out hrowq H68.out (by omega) hown' hgrow; have hc1 := y0.cell; have hf1 := y0.frozen)
      have STL := gi_still KN.out (by omega) yp (fun g hg => (World.ownsRow.lt hrowq g hg).1)
      have z13 : Boxed _ n13 3 _ := boxed_kp H13q.out yp (by omega) hrowq
      have z14 : Boxed _ (n13 + 1) 3 _ := boxed_kp H14q.out yp (by omega) hrowq
      have zD : _ = some (Obj.deferred (some [])) := (yk.same _ _ HDq.out rfl)
      have zE := HEq.out.still STL (.inl rfl) (.inr (.inl rfl)) (fun g hg => .inr (.inr hg))
      have FIN : Hid (GF bs w8 w9 n8 n13 ov Bo zs pre x W (fun k => k = 0 ∨ k = Bo ∨ ov.ownBlock = some k) _) := gf_fin KQ.out SQ.out yk STL (by rw [HY.out]; exact yg) z13 z14 zD zE NXT.out (by omega) H68.out (fun k hk => by have := KN.out k hk; omega) (.inl rfl) (.inr (.inl rfl)) (fun g hg => .inr (.inr hg))
      have hc2 := z14.cell
      have hf2 := z14.frozen
      clear yk yp yb yg STL y0 hown' hgrow z13 z14 zD zE
      gi_wp2
      exact FIN.out
    case done =>
      rintro xs W hS ⟨hI, hE, hp, h13, h14, hD⟩ hD1
      obtain ⟨a2, c2, hv, hrow⟩ := hI.row
      have ge := GE9.out W hI.bel
      have xM : xs.length = M := by have := congrArg List.length hS; rw [HMS.out, places_len, HM.out] at this; simpa using this
      have hl2 : (zs ++ xs).length = zs.length + M := by rw [List.length_append, xM]
      have zl := ZL.out
      have big := HLL.out
      have rv : RowsV (n8 + 1) W (.slice a2 (zs ++ xs).length c2) ((zs ++ xs).map Item.p) := rows_gi hI hrow
      obtain ⟨_, hc2, _⟩ := rv.rd.at
      obtain ⟨_, hcm, _⟩ := ge.rm.rd.at
      have ti : TI (n8 + 1) W (.slice a2 (zs ++ xs).length c2) ((zs ++ xs).map Item.v) ((zs ++ xs).map (fun x => x.p.length)) := ti_gi hI hrow
      have tle : ∀ i, ((zs ++ xs).map (fun x : Item => x.p.length)).getD i 0 ≤ 1000000000 := getD_le (fun y hy => by
        have hm : y.p ∈ MS := by
          rcases List.mem_append.1 hy with hy | hy
          · have : y.p ∈ zs.map Item.p := List.mem_map.2 ⟨y, hy, rfl⟩
            rw [zl.2] at this
            exact List.mem_of_mem_take this
          · have : y.d ∈ allL bs := by rw [← hS]; exact List.mem_map.2 ⟨y, hy, rfl⟩
            rw [HMS.out] at this
            have h3 : y.p ∈ (places 0 MS).map (·.2) := List.mem_map.2 ⟨y.d, this, rfl⟩
            rw [places_snd] at h3
            exact h3
        have := HLM.out _ hm
        omega)
      have tin : ((zs ++ xs).map (fun x : Item => x.p.length)).length = zs.length + M := by rw [List.length_map, hl2]
      have ALK : Hid (Calls Tryd.prog 8 #[.slice a2 zs.length c2, .slice am zs.length cm] W.drew fun e w'' => e = .returned (.bool true) ∧ ∃ q, w'' = W.drew.drewN q) := by
        have r1 := rv.rd.cut (k := zs.length) (by omega)
        rw [List.map_append, List.take_append_of_le_length (by simp), List.take_of_length_le (by simp), zl.2] at r1
        have r2 := ge.rm.rd.cut (k := zs.length) (by rw [HM.out]; exact zl.1)
        exact alike_at (MS.take zs.length) _ _ W.drew (by rw [List.length_take]; omega) (fun p hp => by have := HLM.out _ (List.mem_of_mem_take hp); omega) (r1.later (below_drewN (Below.refl _ _) 1)) (r2.later (below_drewN (Below.refl _ _) 1))
      have TLD : Hid (∀ q, Calls Tryd.prog 9 #[.slice a2 (zs ++ xs).length c2] (W.drewN q) fun e w' => e = .returned (.bool true) ∧ Marked w' (.slice a2 (zs ++ xs).length c2) ((zs ++ xs).map Item.v) ((zs ++ xs).map (fun x => x.p.length)) ∧ Kp (TM ((zs ++ xs).map Item.v) ((zs ++ xs).map (fun x : Item => x.p.length)).length) (W.drewN q) w') := fun q => told_at (n8 + 1) _ _ _ _ (by rw [tin]; omega) tle hI.size (ti.later (below_drewN (Below.refl _ _) q))
      have TMB : ∀ g, TM ((zs ++ xs).map Item.v) ((zs ++ xs).map (fun x : Item => x.p.length)).length g → n8 + 1 ≤ g ∧ ∃ cs, W.heap[g]? = some (.cells cs 5 (0, 0)) := tm_gi hI
      have PST : Hid (∀ q w', Kp (TM ((zs ++ xs).map Item.v) ((zs ++ xs).map (fun x : Item => x.p.length)).length) (W.drewN q) w' → (w'.cell? ⟨n8, 0, none⟩ = some (.slice a2 (zs ++ xs).length c2) ∧ w'.cell? ⟨n13, 0, none⟩ = some (.int .i64 (zs.length : Int)) ∧ w'.cell? ⟨n5, 0, none⟩ = some (.slice am M cm)) ∧ Below w8.heap.size w8 w' ∧ w'.heap[w9.heap.size]? = some (.deferred (some [])) ∧ w'.heap[wS.heap.size]? = some (.deferred (some []))) := fun q w' kp => by
        have nb : ∀ {b : Nat} {o : Obj}, W.heap[b]? = some o → (∀ cs, o ≠ .cells cs 5 (0, 0)) → w'.heap[b]? = some o := fun {b o} hb hne => (kp.block b (Array.getElem?_eq_some_iff.1 hb).1 (fun ht => by
          obtain ⟨_, cs, hcs⟩ := TMB b ht
          rw [hb] at hcs
          exact hne cs (Option.some.inj hcs))).trans hb
        have e8 : Boxed w' n8 23 _ := nb hv (fun cs h => by injection h with h1 h2; exact absurd h2 (by decide))
        have e13 : Boxed w' n13 3 _ := nb h13 (fun cs h => by injection h with h1 h2; exact absurd h2 (by decide))
        have e5 : Boxed w' n5 23 _ := nb ge.b5 (fun cs h => by injection h with h1 h2; exact absurd h2 (by decide))
        refine ⟨⟨e8.cell, e13.cell, by rw [← HM.out]; exact e5.cell⟩, below_kp (show Below w8.heap.size w8 (W.drewN q) from below_drewN hI.bel q) kp hI.bel.size (fun g hg => by have := (TMB g hg).1; have := H88.out; omega), nb hD (fun cs h => by cases h), nb hD1 (fun cs h => by cases h)⟩
      have C8 : Hid (W.cell? ⟨n8, 0, none⟩ = some (.slice a2 (zs ++ xs).length c2)) := hv.cell
      have C13 : Hid (W.cell? ⟨n13, 0, none⟩ = some (.int .i64 (zs.length : Int))) := h13.cell
      have C5 : Hid (W.cell? ⟨n5, 0, none⟩ = some (.slice am M cm)) := by have := ge.b5.cell; rwa [HM.out] at this
      rw [hl2] at hc2
      rw [HM.out] at hcm
      generalize (zs ++ xs).map Item.v = vs at *
      generalize (zs ++ xs).map (fun x : Item => x.p.length) = ns at *
      obtain ⟨L, hL⟩ : ∃ L, (zs ++ xs).length = L := ⟨_, rfl⟩
      rw [hL] at TLD PST C8
      have t5 : (L : Int) - (zs.length : Int) = (M : Int) := by omega
      have wM : IntKind.i64.wrap (M : Int) = (M : Int) := by simp [IntKind.wrap, IntKind.bits, IntKind.signed]; omega
      have hzc : zs.length ≤ c2 := by omega
      have hzm : zs.length ≤ cm := by omega
      have SB : Hid (ns.length ≤ 1000000 ∧ ∀ i, ns.getD i 0 ≤ 1000000000) := ⟨by omega, tle⟩
      clear hv hrow ge rv ti tle hI hE hp h13 h14 hD hD1 TMB hS hL hl2 tin xM
      gi_upto_region 26 with fail
      rename_i K26 h26
      refine wpIn_mono (Q := nrm K26) (wpIn_wide.2 ?_) (fun e a w h => by cases e <;> first | exact h | exact h.elim)
      refine wp_region_held_drew (S := fun w' => w'.cell? ⟨n8, 0, none⟩ = some (.slice a2 L c2) ∧ w'.cell? ⟨n13, 0, none⟩ = some (.int .i64 (zs.length : Int)) ∧ w'.cell? ⟨n5, 0, none⟩ = some (.slice am M cm)) (by kernel_rfl) ⟨C8.out, C13.out, C5.out⟩ (fun hH => ?_)
      refine wpAnyH_take (i := 0) (oi := { dst := some 99, op := Op.load 23 (Operand.tmp 10), type := 23, pos := "law.go:158", after := #[], guard := none }) (v := .slice a2 L c2) rfl (by kernel_rfl) (by kernel_rfl) (by kernel_rfl) (fun _ _ _ h => h) (Or.inl ⟨by rfl, fun w' hs => by obtain ⟨q8, q13, q5⟩ := hs; go_simp⟩) hH ?_
      simp only [Act.put, List.setIfInBounds_toArray, List.set_cons_zero, List.set_cons_succ]
      refine wpAnyH_take (i := 1) (oi := { dst := some 100, op := Op.call { callee := Callee.builtin Builtin.len, args := #[Operand.tmp 99], argTypes := #[23] }, type := 3, pos := "law.go:158", after := #[{ on := 0, ground := Ground.data }], guard := none }) (v := .int .i64 (L : Int)) rfl (by kernel_rfl) (by kernel_rfl) (by kernel_rfl) (fun _ _ _ h => h) (Or.inl ⟨by rfl, fun w' hs => by obtain ⟨q8, q13, q5⟩ := hs; go_simp⟩) hH ?_
      simp only [Act.put, List.setIfInBounds_toArray, List.set_cons_zero, List.set_cons_succ]
      refine wpAnyH_take (i := 2) (oi := { dst := some 101, op := Op.load 3 (Operand.tmp 13), type := 3, pos := "law.go:158", after := #[], guard := none }) (v := .int .i64 (zs.length : Int)) rfl (by kernel_rfl) (by kernel_rfl) (by kernel_rfl) (fun _ _ _ h => h) (Or.inl ⟨by rfl, fun w' hs => by obtain ⟨q8, q13, q5⟩ := hs; go_simp⟩) hH ?_
      simp only [Act.put, List.setIfInBounds_toArray, List.set_cons_zero, List.set_cons_succ]
      refine wpAnyH_take (i := 3) (oi := { dst := some 102, op := Op.binOp BinOp.sub 3 (Operand.tmp 100) (Operand.tmp 101) 3, type := 3, pos := "law.go:158", after := #[{ on := 1, ground := Ground.data }, { on := 2, ground := Ground.data }], guard := none }) (v := .int .i64 (M : Int)) rfl (by kernel_rfl) (by kernel_rfl) (by kernel_rfl) (fun _ _ _ h => h) (Or.inl ⟨by rfl, fun w' hs => by obtain ⟨q8, q13, q5⟩ := hs; go_simp⟩) hH ?_
      simp only [Act.put, List.setIfInBounds_toArray, List.set_cons_zero, List.set_cons_succ]
      refine wpAnyH_take (i := 4) (oi := { dst := some 103, op := Op.load 23 (Operand.tmp 5), type := 23, pos := "law.go:158", after := #[], guard := none }) (v := .slice am M cm) rfl (by kernel_rfl) (by kernel_rfl) (by kernel_rfl) (fun _ _ _ h => h) (Or.inl ⟨by rfl, fun w' hs => by obtain ⟨q8, q13, q5⟩ := hs; go_simp⟩) hH ?_
      simp only [Act.put, List.setIfInBounds_toArray, List.set_cons_zero, List.set_cons_succ]
      refine wpAnyH_take (i := 5) (oi := { dst := some 104, op := Op.call { callee := Callee.builtin Builtin.len, args := #[Operand.tmp 103], argTypes := #[23] }, type := 3, pos := "law.go:158", after := #[{ on := 4, ground := Ground.data }], guard := none }) (v := .int .i64 (M : Int)) rfl (by kernel_rfl) (by kernel_rfl) (by kernel_rfl) (fun _ _ _ h => h) (Or.inl ⟨by rfl, fun w' hs => by obtain ⟨q8, q13, q5⟩ := hs; go_simp⟩) hH ?_
      simp only [Act.put, List.setIfInBounds_toArray, List.set_cons_zero, List.set_cons_succ]
      refine wpAnyH_take (i := 6) (oi := { dst := some 105, op := Op.binOp BinOp.neq 3 (Operand.tmp 102) (Operand.tmp 104) 3, type := 4, pos := "law.go:158", after := #[{ on := 3, ground := Ground.data }, { on := 5, ground := Ground.data }], guard := none }) (v := .bool false) rfl (by kernel_rfl) (by kernel_rfl) (by kernel_rfl) (fun _ _ _ h => h) (Or.inl ⟨by rfl, fun w' hs => by obtain ⟨q8, q13, q5⟩ := hs; go_simp⟩) hH ?_
      simp only [Act.put, List.setIfInBounds_toArray, List.set_cons_zero, List.set_cons_succ]
      refine wpAnyH_take (i := 7) (oi := { dst := some 106, op := Op.move (Operand.tmp 105), type := 4, pos := "law.go:158", after := #[{ on := 6, ground := Ground.data }], guard := none }) (v := .bool false) rfl (by kernel_rfl) (by kernel_rfl) (by kernel_rfl) (fun _ _ _ h => h) (Or.inl ⟨by rfl, fun w' hs => by obtain ⟨q8, q13, q5⟩ := hs; go_simp⟩) hH ?_
      simp only [Act.put, List.setIfInBounds_toArray, List.set_cons_zero, List.set_cons_succ]
      refine wpAnyH_take (i := 8) (oi := { dst := some 107, op := Op.load 23 (Operand.tmp 10), type := 23, pos := "law.go:158", after := #[{ on := 7, ground := Ground.guard }], guard := some (7, false) }) (v := .slice a2 L c2) rfl (by kernel_rfl) (by kernel_rfl) (by kernel_rfl) (fun _ _ _ h => h) (Or.inl ⟨by rfl, fun w' hs => by obtain ⟨q8, q13, q5⟩ := hs; go_simp⟩) hH ?_
      simp only [Act.put, List.setIfInBounds_toArray, List.set_cons_zero, List.set_cons_succ]
      refine wpAnyH_take (i := 9) (oi := { dst := some 108, op := Op.load 3 (Operand.tmp 13), type := 3, pos := "law.go:158", after := #[{ on := 7, ground := Ground.guard }], guard := some (7, false) }) (v := .int .i64 (zs.length : Int)) rfl (by kernel_rfl) (by kernel_rfl) (by kernel_rfl) (fun _ _ _ h => h) (Or.inl ⟨by rfl, fun w' hs => by obtain ⟨q8, q13, q5⟩ := hs; go_simp⟩) hH ?_
      simp only [Act.put, List.setIfInBounds_toArray, List.set_cons_zero, List.set_cons_succ]
      refine wpAnyH_take (i := 10) (oi := { dst := some 109, op := Op.slice 23 (Operand.tmp 107) none (some (Operand.tmp 108)) none, type := 23, pos := "law.go:158", after := #[{ on := 8, ground := Ground.data }, { on := 9, ground := Ground.data }, { on := 7, ground := Ground.guard }], guard := some (7, false) }) (v := .slice a2 zs.length c2) rfl (by kernel_rfl) (by kernel_rfl) (by kernel_rfl) (fun _ _ _ h => h) (Or.inl ⟨by rfl, fun w' hs => by obtain ⟨q8, q13, q5⟩ := hs; go_simp⟩) hH ?_
      simp only [Act.put, List.setIfInBounds_toArray, List.set_cons_zero, List.set_cons_succ]
      refine wpAnyH_take (i := 11) (oi := { dst := some 110, op := Op.load 23 (Operand.tmp 5), type := 23, pos := "law.go:158", after := #[{ on := 7, ground := Ground.guard }], guard := some (7, false) }) (v := .slice am M cm) rfl (by kernel_rfl) (by kernel_rfl) (by kernel_rfl) (fun _ _ _ h => h) (Or.inl ⟨by rfl, fun w' hs => by obtain ⟨q8, q13, q5⟩ := hs; go_simp⟩) hH ?_
      simp only [Act.put, List.setIfInBounds_toArray, List.set_cons_zero, List.set_cons_succ]
      refine wpAnyH_take (i := 12) (oi := { dst := some 111, op := Op.load 3 (Operand.tmp 13), type := 3, pos := "law.go:158", after := #[{ on := 7, ground := Ground.guard }], guard := some (7, false) }) (v := .int .i64 (zs.length : Int)) rfl (by kernel_rfl) (by kernel_rfl) (by kernel_rfl) (fun _ _ _ h => h) (Or.inl ⟨by rfl, fun w' hs => by obtain ⟨q8, q13, q5⟩ := hs; go_simp⟩) hH ?_
      simp only [Act.put, List.setIfInBounds_toArray, List.set_cons_zero, List.set_cons_succ]
      refine wpAnyH_take (i := 13) (oi := { dst := some 112, op := Op.slice 23 (Operand.tmp 110) none (some (Operand.tmp 111)) none, type := 23, pos := "law.go:158", after := #[{ on := 11, ground := Ground.data }, { on := 12, ground := Ground.data }, { on := 7, ground := Ground.guard }], guard := some (7, false) }) (v := .slice am zs.length cm) rfl (by kernel_rfl) (by kernel_rfl) (by kernel_rfl) (fun _ _ _ h => h) (Or.inl ⟨by rfl, fun w' hs => by obtain ⟨q8, q13, q5⟩ := hs; go_simp⟩) hH ?_
      simp only [Act.put, List.setIfInBounds_toArray, List.set_cons_zero, List.set_cons_succ]
      refine wpAnyH_ready (rs := [14]) (by kernel_rfl) (by simp) ?_
      refine AllReadyH.cons (o := { dst := some 113, op := Op.call { callee := Callee.value (Operand.func 8), args := #[Operand.tmp 109, Operand.tmp 112], argTypes := #[23, 23] }, type := 4, pos := "law.go:158", after := #[{ on := 10, ground := Ground.data }, { on := 13, ground := Ground.data }, { on := 7, ground := Ground.chain }, { on := 7, ground := Ground.guard }], guard := some (7, false) }) rfl (fun K hK => ?_) AllReadyH.nil
      go_simp
      refine ALK.out.mono ?_
      rintro e wa ⟨rfl, qa, rfl⟩
      refine hK.out _ _ ⟨C8.out, C13.out, C5.out⟩ (fun hH => ?_)
      refine wpAnyH_take (i := 15) (oi := { dst := some 114, op := Op.unOp UnOp.not 4 (Operand.tmp 113), type := 4, pos := "law.go:158", after := #[{ on := 14, ground := Ground.data }, { on := 7, ground := Ground.guard }], guard := some (7, false) }) (v := .bool false) rfl (by kernel_rfl) (by kernel_rfl) (by kernel_rfl) (fun _ _ _ h => h) (Or.inl ⟨by rfl, fun w' hs => by obtain ⟨q8, q13, q5⟩ := hs; go_simp⟩) hH ?_
      simp only [Act.put, List.setIfInBounds_toArray, List.set_cons_zero, List.set_cons_succ]
      refine wpAnyH_take (i := 16) (oi := { dst := some 115, op := Op.pick (Operand.tmp 106) (Operand.const (Value.bool true)) (Operand.tmp 114), type := 4, pos := "law.go:158", after := #[{ on := 7, ground := Ground.data }, { on := 15, ground := Ground.data }], guard := none }) (v := .bool false) rfl (by kernel_rfl) (by kernel_rfl) (by kernel_rfl) (fun _ _ _ h => h) (Or.inl ⟨by rfl, fun w' hs => by obtain ⟨q8, q13, q5⟩ := hs; go_simp⟩) hH ?_
      simp only [Act.put, List.setIfInBounds_toArray, List.set_cons_zero, List.set_cons_succ]
      refine wpAnyH_take (i := 17) (oi := { dst := some 116, op := Op.move (Operand.tmp 115), type := 4, pos := "law.go:158", after := #[{ on := 16, ground := Ground.data }, { on := 14, ground := Ground.chain }], guard := none }) (v := .bool false) rfl (by kernel_rfl) (by kernel_rfl) (by kernel_rfl) (fun _ _ _ h => h) (Or.inl ⟨by rfl, fun w' hs => by obtain ⟨q8, q13, q5⟩ := hs; go_simp⟩) hH ?_
      simp only [Act.put, List.setIfInBounds_toArray, List.set_cons_zero, List.set_cons_succ]
      refine wpAnyH_take (i := 18) (oi := { dst := some 117, op := Op.load 23 (Operand.tmp 10), type := 23, pos := "law.go:158", after := #[{ on := 17, ground := Ground.guard }], guard := some (17, false) }) (v := .slice a2 L c2) rfl (by kernel_rfl) (by kernel_rfl) (by kernel_rfl) (fun _ _ _ h => h) (Or.inl ⟨by rfl, fun w' hs => by obtain ⟨q8, q13, q5⟩ := hs; go_simp⟩) hH ?_
      simp only [Act.put, List.setIfInBounds_toArray, List.set_cons_zero, List.set_cons_succ]
      refine wpAnyH_ready (rs := [19]) (by kernel_rfl) (by simp) ?_
      refine AllReadyH.cons (o := { dst := some 118, op := Op.call { callee := Callee.value (Operand.func 9), args := #[Operand.tmp 117], argTypes := #[23] }, type := 4, pos := "law.go:158", after := #[{ on := 18, ground := Ground.data }, { on := 17, ground := Ground.chain }, { on := 17, ground := Ground.guard }], guard := some (17, false) }) rfl (fun K hK => ?_) AllReadyH.nil
      go_simp
      refine (TLD.out _).mono ?_
      rintro e wb ⟨rfl, mk, kpb⟩
      have PB := PST.out _ _ kpb
      refine hK.out _ _ PB.1 (fun hH => ?_)
      refine wpAnyH_take (i := 20) (oi := { dst := some 119, op := Op.unOp UnOp.not 4 (Operand.tmp 118), type := 4, pos := "law.go:158", after := #[{ on := 19, ground := Ground.data }, { on := 17, ground := Ground.guard }], guard := some (17, false) }) (v := .bool false) rfl (by kernel_rfl) (by kernel_rfl) (by kernel_rfl) (fun _ _ _ h => h) (Or.inl ⟨by rfl, fun w' hs => by obtain ⟨q8, q13, q5⟩ := hs; go_simp⟩) hH ?_
      simp only [Act.put, List.setIfInBounds_toArray, List.set_cons_zero, List.set_cons_succ]
      refine wpAnyH_take (i := 21) (oi := { dst := some 120, op := Op.pick (Operand.tmp 116) (Operand.const (Value.bool true)) (Operand.tmp 119), type := 4, pos := "law.go:158", after := #[{ on := 17, ground := Ground.data }, { on := 20, ground := Ground.data }], guard := none }) (v := .bool false) rfl (by kernel_rfl) (by kernel_rfl) (by kernel_rfl) (fun _ _ _ h => h) (Or.inl ⟨by rfl, fun w' hs => by obtain ⟨q8, q13, q5⟩ := hs; go_simp⟩) hH ?_
      simp only [Act.put, List.setIfInBounds_toArray, List.set_cons_zero, List.set_cons_succ]
      refine wpAnyH_done (by kernel_rfl) ?_ _
      have MKB : Hid (Marked wb (.slice a2 L c2) vs ns) := mk
      have PBH : Hid (Below w8.heap.size w8 wb ∧ wb.heap[w9.heap.size]? = some (.deferred (some [])) ∧ wb.heap[wS.heap.size]? = some (.deferred (some []))) := PB.2
      have C8b : Hid (wb.cell? ⟨n8, 0, none⟩ = some (.slice a2 L c2)) := PB.1.1
      clear hH hK PB mk kpb PST TLD ALK C8 C13 C5
      refine h26 _ _ ?_
      clear h26

      gi_wp2
      refine ⟨trivial, (callsIn_wide.2 (SCF.out _ _ (TABL.out _ PBH.out.1) (MINE.out _ PBH.out.1))).mono ?_⟩
      rintro e w4 ⟨a4, c4, rfl, _, b4⟩
      have lv : ∀ {k : Nat} {o : Obj}, wb.heap[k]? = some o → w4.heap[k]? = some o := fun h => (b4.block _ (Array.getElem?_eq_some_iff.1 h).1).trans h
      have P4 : Hid (Below w8.heap.size w8 w4 ∧ w4.heap[w9.heap.size]? = some (.deferred (some [])) ∧ w4.heap[wS.heap.size]? = some (.deferred (some []))) := ⟨below_trans PBH.out.1 b4, lv PBH.out.2.1, lv PBH.out.2.2⟩
      have M4 : Hid (Marked w4 (.slice a2 L c2) vs ns) := MKB.out.later b4
      have C4 : w4.cell? ⟨n8, 0, none⟩ = some (.slice a2 L c2) := (b4.cell (p := ⟨n8, 0, none⟩) (World.block_lt_of_cell? _ _ C8b.out)).trans C8b.out
      have SM4 : Hid (Calls Tryd.prog 7 #[v8, .slice ao bs.length cap] w4 fun e w' => e = .returned (.bool true) ∧ ∃ n, w' = w4.drewN n) := by
        refine (same_at bs bs _ _ w4 (by omega) (MINE.out _ P4.out.1) (FILE.out _ P4.out.1)).mono ?_
        rintro e w' ⟨rfl, h⟩
        exact ⟨by simp, h⟩
      clear lv b4 MKB PBH C8b
      gi_wp2
      refine ⟨trivial, (callsIn_wide.2 SM4.out).mono ?_⟩
      rintro e w5 ⟨rfl, q5, rfl⟩
      have C5 : (w4.drewN q5).cell? ⟨n8, 0, none⟩ = some (.slice a2 L c2) := C4
      have ST5 : Hid (Calls Tryd.prog 11 #[.slice a2 L c2] (w4.drewN q5) fun e w' => e = .returned (.bool true) ∧ w' = w4.drewN q5) := still_at vs ns _ _ SB.out.1 SB.out.2 (M4.out.later (below_drewN (Below.refl _ _) q5))
      have P5 : Hid (Below w8.heap.size w8 (w4.drewN q5) ∧ (w4.drewN q5).heap[w9.heap.size]? = some (.deferred (some [])) ∧ (w4.drewN q5).heap[wS.heap.size]? = some (.deferred (some []))) := ⟨below_drewN P4.out.1 q5, P4.out.2⟩
      clear P4 M4 C4 SM4
      generalize w4.drewN q5 = w5 at *
      gi_wp2
      refine ⟨trivial, (callsIn_wide.2 ST5.out).mono ?_⟩
      rintro e w6' ⟨rfl, rfl⟩
      have X4 : Boxed w6' (n0 + 1) 4 (.bool false) := (GE9.out _ P5.out.1).b4
      have x4c := X4.cell
      have x4f := X4.frozen
      gi_wp2
      obtain ⟨f1, f2, f3, f4⟩ := again_fin X4 P5.out.2.1 P5.out.2.2 (GE9.out _ P5.out.1).bel (by have := (GE9.out _ P5.out.1).hn0; omega) (by have := SS.out; have := N89.out; omega) (by have := S9.out; have := (GE9.out _ P5.out.1).hn0; have := (GE9.out _ P5.out.1).b4.lt; have := P5.out.1.size; have := NW8.out; have := H88.out; omega)
      refine ⟨by simp, .inl ⟨_, _, rfl, run_takeDeferred f1, ?_⟩⟩
      refine ⟨by simp, .inl ⟨_, _, rfl, run_takeDeferred f2, ?_⟩⟩
      exact ⟨_, results_c1 rfl _ _ rfl (loadVar_plain Tryd.underlying4 rfl f3), rfl, f4⟩
    case stop =>
      rintro c pre W _ h _
      exact h.elim
  clear hK
  have seq := SEQ.out w9 NV.out
  refine wpIn_range_tells (n := 2) rfl (enters_of Tryd.func15 (by kernel_rfl) rfl) seq (Below.refl _ _) (fun k hk => ?_) (fun _ => rfl) (fun pre W => GI w8 n8 (n8 + 1) pre W ∧ Env bs ov Bo W ∧ pre.map Item.d <+: allL bs) (fun c pre W => c = .exit 0 ∧ GI w8 n8 (n8 + 1) pre W ∧ Env bs ov Bo W ∧ pre.map Item.d <+: allL bs)
    (fun pre W W' row h hg hr => ⟨h.1.grown (by have := H68.out; have := S9.out; omega) hg hr, ENVOWN.out _ _ _ h.2.1 hg hr, h.2.2⟩) (fun c pre W W' row h hg hr => ⟨h.1, h.2.1.grown (by have := H68.out; have := S9.out; omega) hg hr, ENVOWN.out _ _ _ h.2.2.1 hg hr, h.2.2.2⟩) itemOk_own ⟨I9.out, NV.out, List.nil_prefix⟩
    (fun x => { tmps := #[.slice ao bs.length cap, .int .i64 stop, undef, .pointer (some ⟨n0, 0, none⟩), .pointer (some ⟨n0 + 1, 0, none⟩), .pointer (some ⟨n5, 0, none⟩), .pointer (some ⟨n5 + 1, 0, none⟩), .int .i64 (T : Int), v8, .func (.func 15) #[] #[.pointer (some ⟨Bo, 0, none⟩)], .pointer (some ⟨n8, 0, none⟩), .int .i64 (x.pl : Int), .slice x.a x.p.length x.c, undef, undef, undef, undef, undef, .tuple #[.slice am M cm, .int .i64 (E : Int), .int .i64 (T : Int)], .slice ao bs.length cap, .tuple #[.slice am M cm, .int .i64 (E : Int), .int .i64 (T : Int)], .slice am M cm, .int .i64 (E : Int), .int .i64 (T : Int), .slice ao bs.length cap, .int .i64 (bs.length : Int), .bool false, .bool false, .slice am M cm, .int .i64 (M : Int), .bool false, .bool false, .slice ao bs.length cap, v8, v8, .func (.func 15) #[] #[.pointer (some ⟨Bo, 0, none⟩)], .func (.func 15) #[] #[.pointer (some ⟨Bo, 0, none⟩)], .bool false, .func (.func 15) #[] #[.pointer (some ⟨Bo, 0, none⟩)], .int .i64 (x.pl : Int), .slice x.a x.p.length x.c, undef, undef, undef, undef, undef, undef, undef, undef, undef, undef, undef, undef, undef, undef, undef, undef, undef, undef, undef, undef, undef, undef, undef, undef, undef, undef, undef, undef, undef, undef, undef, undef, undef, undef, undef, undef, undef, undef, undef, undef, undef, undef, undef, undef, undef, undef, undef, undef, undef, undef, undef, undef, undef, undef, undef, undef, undef, undef, undef, undef, undef, undef, undef, undef, undef, undef, undef, undef, undef, undef, undef, undef, undef, undef, undef, undef, undef, undef, undef, undef, undef, undef, undef, undef, undef, undef, undef, undef, undef], defers := [] }) ?assign ?body ?done ?stop
  · have := KN.out k hk; rw [S9.out]; omega
  case assign =>
    intro l x W C hC
    unfold Item.enc
    gi_wp2
    exact hC
  case body =>
    rintro l pre x W ⟨hI, hE, hp⟩ hP
    rw [S9.out] at hP
    obtain ⟨a, c, hv, hrow⟩ := hI.row
    have hrow' : W.ownsRow (n8 + 1) 22 1 (.slice a pre.length c) pre.length (pre.map Item.v) := by have := hrow; rw [RowV, List.length_map] at this; exact this
    have ge := GE9.out W hI.bel
    have e5 := ge.b5.cell
    have e6 := ge.b6.cell
    have e3 := ge.b3.cell
    rw [HM.out] at e5
    have hc := hv.cell
    have hf := hv.frozen
    have hM := hI.size
    have big := HLL.out
    have inx : x.d ∈ allL bs := hP.next.subset (by simp)
    have xE : x.pl < E := HPL.out _ inx
    have nM : pre.length < M := by
      have h1 := hP.next.length_le
      rw [HMS.out, places_len, HM.out] at h1
      simp at h1; omega
    have t1 : decide ((x.pl : Int) < 0) = false := decide_eq_false (by omega)
    have t2 : decide ((E : Int) ≤ (x.pl : Int)) = false := decide_eq_false (by omega)
    have t3 : decide ((M : Int) ≤ (pre.length : Int)) = false := decide_eq_false (by omega)
    have b1 : pre.length + 1 ≤ maxLen := by unfold maxLen; omega
    have b2 : (pre.length + 1) * 24 ≤ 140737488355328 := by omega
    have one : ∀ u ∈ [x.v], u.oneCell' = true := fun u hu => by simp at hu; subst hu; rfl
    have HP : Hid (ItemOk bs (n8 + 1) pre x W) := hP
    have HI : Hid (GI w8 n8 (n8 + 1) pre W) := hI
    have HE : Hid (Env bs ov Bo W) := hE
    have HV : Hid (Boxed W n8 23 (.slice a pre.length c)) := hv
    clear hP hI hE hp ge hv hrow inx seq CONT
    have HX : Hid (RowB 5 (n8 + 1) W x.v x.p) := HP.out.row
    have HA : Hid (∀ y ∈ pre, ∀ g, y.v.ownBlock = some g → x.v.ownBlock ≠ some g) := HP.out.apart
    by_cases hst : ((pre.length : Int) + 1 == stop) = true
    · gi_upto_region 15 with (gi_at_builtin; refine wpListIn_append_own _ rfl _ _ 23 rfl (n8 + 1) 22 i0 (.slice none 0 0) 1 24 underS hi hz0 hz1 hz2 rfl (by decide) _ _ _ rfl (hrow'.alloc _) ⟨W.heap.size, 0, none⟩ 1 1 [x.v] rfl rfl (cell_one_new _ _ _) one b1 b2 (by simp; omega) ?_; intro v' w2 hown' hgrow _; obtain ⟨g', cap', rfl⟩ := ownsRow_succ hown'; obtain ⟨y0, yk, yp, yb, yg⟩ := HI.out.push HX.out HA.out HV.out hrow' H68.out (by omega) hown' hgrow; have hc1 := y0.cell; have hf1 := y0.frozen)
      have STL := gi_still KN.out (by omega) yp (fun g hg => (World.ownsRow.lt hrow' g hg).1)
      have FIN : Hid (KeepsOthers W _ ∧ GI w8 n8 (n8 + 1) (pre ++ [x]) _ ∧ Env bs ov Bo _ ∧ (pre ++ [x]).map Item.d <+: allL bs) := ⟨yk, yg, HE.out.still STL (.inl rfl) (.inr (.inl rfl)) (fun g hg => .inr (.inr hg)), by rw [List.map_append]; exact HP.out.next⟩
      have hc2 := yb.cell
      have e3' := (GE9.out _ yg.bel).b3.cell
      clear yk yp yb yg STL y0 hown' hgrow
      gi_wp2
      exact ⟨FIN.out.1, rfl, FIN.out.2⟩
    · have hst' : ((pre.length : Int) + 1 == stop) = false := by simpa using hst
      clear hst
      gi_upto_region 15 with (gi_at_builtin; refine wpListIn_append_own _ rfl _ _ 23 rfl (n8 + 1) 22 i0 (.slice none 0 0) 1 24 underS hi hz0 hz1 hz2 rfl (by decide) _ _ _ rfl (hrow'.alloc _) ⟨W.heap.size, 0, none⟩ 1 1 [x.v] rfl rfl (cell_one_new _ _ _) one b1 b2 (by simp; omega) ?_; intro v' w2 hown' hgrow _; obtain ⟨g', cap', rfl⟩ := ownsRow_succ hown'; obtain ⟨y0, yk, yp, yb, yg⟩ := HI.out.push HX.out HA.out HV.out hrow' H68.out (by omega) hown' hgrow; have hc1 := y0.cell; have hf1 := y0.frozen)
      have STL := gi_still KN.out (by omega) yp (fun g hg => (World.ownsRow.lt hrow' g hg).1)
      have FIN : Hid (KeepsOthers W _ ∧ Still (fun k => k = 0 ∨ k = Bo ∨ ov.ownBlock = some k) W _ ∧ GI w8 n8 (n8 + 1) (pre ++ [x]) _ ∧ Env bs ov Bo _ ∧ (pre ++ [x]).map Item.d <+: allL bs) := ⟨yk, STL, yg, HE.out.still STL (.inl rfl) (.inr (.inl rfl)) (fun g hg => .inr (.inr hg)), by rw [List.map_append]; exact HP.out.next⟩
      have hc2 := yb.cell
      have e3' := (GE9.out _ yg.bel).b3.cell
      clear yk yp yb yg STL y0 hown' hgrow
      gi_wp2
      exact FIN.out
  case done =>
    rintro xs W hS ⟨hI, hE, hp⟩ hK
    exact CONT xs W hI hp hK hE
  case stop =>
    rintro c pre W _ ⟨rfl, hI, hE, hp⟩ hK
    gi_wp2
    exact CONT pre W hI hp hK hE

set_option maxRecDepth 100000 in
set_option maxHeartbeats 4000000 in
theorem again_any (bs : List Nat) (stop : Int) (v : Value) (w : World) (hb : ∀ b ∈ bs, b < 256) (hl : bs.length ≤ 1048576) (h : RdB w v bs) (hT : TabS w) :
    Calls Tryd.prog 3 #[v, .int .i64 stop] w fun e w' => e = .returned (.bool true) ∧ Below w.heap.size w w' := by
  by_cases h80 : (CrcM.scan bs).1.length ≤ 80
  · exact again_core bs stop v w hb hl h hT h80
  have SCN : Hid (∀ w', Below w.heap.size w w' → Calls Tryd.prog 4 #[v] w' (ScanIs bs w')) := fun w' hb' => rscan_at bs v w' hb (by omega) (Rd.later h hb')
  obtain ⟨ao, cap, rfl, hcap, hnil⟩ := h.len
  have hl0 : (bs.map bv).length = bs.length := List.length_map ..
  rw [hl0] at SCN ⊢
  have d1 : decide ((6000000 : Int) < (bs.length : Int)) = false := decide_eq_false (by omega)
  clear hb hT h hl0 hnil hcap
  have BB : Hid (Below w.heap.size w ((w.alloc (.cells #[.int .i64 stop] 3)).alloc (.cells #[.bool false] 4))) := below_trans (below_alloc w _) (below_alloc (w.alloc _) _)
  have X4 : Hid (Boxed ((w.alloc (.cells #[.int .i64 stop] 3)).alloc (.cells #[.bool false] 4)) (w.heap.size + 1) 4 (.bool false)) := by
    have := Boxed.new (w.alloc (.cells #[.int .i64 stop] 3)) 4 (.bool false)
    rwa [World.size_alloc] at this
  go_enter Tryd.func3, Tryd.ntmps3
  go_wp2_with fail
  refine (SCN.out _ BB.out).mono ?_
  rintro e w1 ⟨am, cm, rfl, rm, b1⟩
  have Y4 : Boxed w1 (w.heap.size + 1) 4 (.bool false) := X4.out.kept (grown_of_below b1) (by simp)
  have B1 : Hid (Below w.heap.size w w1) := below_trans BB.out b1
  clear b1 rm X4 BB SCN
  generalize (CrcM.scan bs).1.length = M at *
  generalize (CrcM.scan bs).2.1 = E at *
  generalize (CrcM.scan bs).2.2 = T at *
  have d2 : decide ((80 : Int) < (M : Int)) = true := decide_eq_true (by omega)
  have c4 := Y4.cell
  have f4 := Y4.frozen
  have l4 := Y4.lt
  have z4 := ((Y4.alloc (.cells #[.slice am M cm] 23)).alloc (.cells #[.int .i64 (E : Int)] 3))
  have c5 := z4.cell
  have f5 := z4.frozen
  have l5 := z4.lt
  go_wp2_with fail
  refine bodyPost_ret_by (results_c1 rfl _ _ rfl (loadVar_plain Tryd.underlying4 rfl (z4.set (.bool true)).cell)) rfl ?_
  have b2 : Below w.heap.size w ((w1.alloc (.cells #[.slice am M cm] 23)).alloc (.cells #[.int .i64 (E : Int)] 3)) := below_trans B1.out (below_trans (below_alloc w1 _) (below_alloc (w1.alloc _) _))
  exact ⟨rfl, b2.grown (grownBy_setCell' _ (w.heap.size + 1) _) b2.size (fun k e => by cases e; omega)⟩
end Go.Proofs.YteflbdlfjebccaaDoor
