/-
  Ours: frame.All and frame.Scan.
-/
import Derived.Test.YteflbdlfjebccaaDoorFrmIter
import Derived.RangeFuncNested
import Derived.Maps.AppendAt
namespace Go.Proofs.YteflbdlfjebccaaDoor
open Go.RowKit Go.Shelf
attribute [local go_sem] Oper.semAt_some

/-- All's answer: the function, its box, the file's copy. -/
structure AllIs (bs : List Nat) (w : World) (Bo : Nat) (ov : Value) (w' : World) : Prop where
  lo : w.heap.size ≤ Bo
  hi : Bo < w'.heap.size
  own : RowB 5 w.heap.size w' ov bs
  box : w'.cell? ⟨Bo, 0, none⟩ = some ov
  bel : Below w.heap.size w w'

set_option maxHeartbeats 600000 in
theorem all_at (bs : List Nat) (v : Value) (w : World) (hl : bs.length ≤ 1000000000000) (h : RdB w v bs) :
    Calls Tryd.prog 6 #[v] w fun e w' => ∃ Bo ov, e = .returned (.func (.func 15) #[] #[.pointer (some ⟨Bo, 0, none⟩)]) ∧ AllIs bs w Bo ov w' := by
  have C : Hid (Calls Tryd.prog 14 #[v] w (NewB w bs)) := clone_at bs v w hl h
  obtain ⟨ao, cap, rfl, _, _⟩ := h.len
  clear h
  generalize (bs.map bv).length = L at *
  go_enter Tryd.func6, Tryd.ntmps6
  go_wp2_with fail
  refine C.out.mono ?_
  rintro e w1 ⟨v1, rfl, r1, b1⟩
  obtain ⟨a1, c1, rfl, _, _⟩ := (RowV.rd r1).len
  rw [List.length_map] at r1 ⊢
  go_wp2_with fail
  go_ret
  have hb1 := below_alloc w1 (.cells #[.slice a1 bs.length c1] 22)
  exact ⟨w1.heap.size, .slice a1 bs.length c1, rfl, ⟨b1.size, by simp, RowV.later r1 hb1, Blk.cell (Blk.new 22 [.slice a1 bs.length c1] w1) 0 _ rfl, below_trans b1 hb1⟩⟩

theorem infoS : (Tryd.prog.info? 22).map (fun i => (i.zero, i.size, i.bytes)) = some (some (.slice none 0 0), 1, 24) := by kernel_rfl
theorem underS : Tryd.prog.underlying 23 = some (.slice 22) := by kernel_rfl

theorem RowV.keptNC {e : TypeId} {base : Nat} {w w' : World} {v : Value} {row : Option Nat} {xs : List Value} (h : RowV e base w v xs) (hb : w.grownBy w' row) (hn : ∀ r, row = some r → ∃ o : Obj, w.heap[r]? = some o ∧ o.isCells = false) : RowV e base w' v xs := by
  refine RowV.kept h hb fun g hg e => ?_
  obtain ⟨o, ho, hc⟩ := hn g e
  rcases h.2 with ⟨rfl, _⟩ | ⟨g', cap, cur, rfl, _, hh, _⟩
  · simp [Value.ownBlock] at hg
  · obtain rfl : g' = g := by simpa [Value.ownBlock] using hg
    rw [hh] at ho
    cases ho
    cases hc
theorem rows_ne {e e' : TypeId} {base base' : Nat} {w : World} {v v' : Value} {xs ys : List Value} (h : RowV e base w v xs) (h' : RowV e' base' w v' ys) (hne : e ≠ e') {g : Nat} (hg : v.ownBlock = some g) : v'.ownBlock ≠ some g := by
  intro hg'
  rcases h.2 with ⟨rfl, _⟩ | ⟨g1, cap, cur, rfl, _, hh, _⟩
  · simp [Value.ownBlock] at hg
  rcases h'.2 with ⟨rfl, _⟩ | ⟨g2, cap', cur', rfl, _, hh', _⟩
  · simp [Value.ownBlock] at hg'
  obtain rfl : g1 = g := by simpa [Value.ownBlock] using hg
  obtain rfl : g2 = g1 := by simpa [Value.ownBlock] using hg'
  rw [hh] at hh'
  injection hh' with hh'
  injection hh' with h1 h2
  exact hne h2

/-- Where the last of these frames ends. -/
def endD (ds : List (Nat × List Nat)) : Nat := match ds.getLast? with | none => 0 | some x => x.1 + x.2.length + 8
theorem endD_snoc (ds : List (Nat × List Nat)) (x : Nat × List Nat) : endD (ds ++ [x]) = x.1 + x.2.length + 8 := by simp [endD]
theorem places_end : ∀ (ps : List (List Nat)) (a : Nat), ps ≠ [] → endD (places a ps) = a + CrcM.sizeL ps
  | [], _, h => absurd rfl h
  | [p], a, _ => by simp [places, endD, CrcM.sizeL_cons, CrcM.sizeL_nil]; omega
  | p :: q :: ps, a, _ => by
    have ih := places_end (q :: ps) (a + p.length + 8) (by simp)
    rw [CrcM.sizeL_cons]
    have e : endD (places a (p :: q :: ps)) = endD (places (a + p.length + 8) (q :: ps)) := by simp [places, endD]
    rw [e, ih]
    omega
theorem places_snd : ∀ (ps : List (List Nat)) (a : Nat), (places a ps).map (·.2) = ps
  | [], _ => rfl
  | p :: ps, a => by simp [places, places_snd ps]
theorem scan_size : ∀ (n : Nat) (l : List Nat), l.length ≤ n → (CrcM.scan l).2.1 = CrcM.sizeL (CrcM.scan l).1
  | n, l, hn => by
    by_cases h : (CrcM.whole l).1 = 0
    · rw [CrcM.scan_none h]; exact CrcM.sizeL_nil.symm
    · obtain ⟨h1, _, h3, h4, _⟩ := CrcM.whole_pos h
      have pl := CrcM.pay_len h
      match n with
      | 0 => omega
      | n + 1 =>
        have ih := scan_size n (l.drop (CrcM.whole l).1) (by simp; omega)
        rw [CrcM.scan_some h]
        simp only
        rw [CrcM.sizeL_cons, ih]
        omega
theorem endD_all (bs : List Nat) : endD (allL bs) = (CrcM.scan bs).2.1 := by
  rw [scan_size _ bs (Nat.le_refl _)]
  unfold allL
  by_cases h : (CrcM.scan bs).1 = []
  · rw [h]; exact CrcM.sizeL_nil.symm
  · rw [places_end _ _ h]; omega

theorem sizeL_ge : ∀ ps : List (List Nat), 8 * ps.length ≤ CrcM.sizeL ps
  | [] => by simp
  | p :: ps => by have := sizeL_ge ps; rw [CrcM.sizeL_cons, List.length_cons]; omega
theorem scan_count (bs : List Nat) : 8 * (CrcM.scan bs).1.length ≤ bs.length := by
  have h1 := sizeL_ge (CrcM.scan bs).1
  have h2 := scan_size _ bs (Nat.le_refl _)
  have h3 := (CrcM.scan_end _ bs (Nat.le_refl _)).1
  omega
theorem places_len : ∀ (ps : List (List Nat)) (a : Nat), (places a ps).length = ps.length
  | [], _ => rfl
  | p :: ps, a => by simp [places, places_len ps]
theorem item_count {bs : List Nat} {base : Nat} {pre : List Item} {x : Item} {W : World} (h : ItemOk bs base pre x W) : pre.length + 1 ≤ bs.length := by
  have h1 := h.next.length_le
  have h2 := scan_count bs
  rw [allL, places_len] at h1
  simp at h1
  omega

/-- What Scan's loop carries. -/
structure ScanI (n0 M : Nat) (w : World) (pre : List Item) (W : World) : Prop where
  box : Boxed W (n0 + 1) 3 (.int .i64 ((endD (pre.map Item.d) : Nat) : Int))
  row : ∃ a c, Boxed W n0 23 (.slice a pre.length c) ∧ RowV 22 M W (.slice a pre.length c) (pre.map Item.v)
  items : ∀ x ∈ pre, RowB 5 M W x.v x.p
  ap : pre.Pairwise (fun x y => ∀ g, x.v.ownBlock = some g → y.v.ownBlock ≠ some g)
  bel : Below n0 w W
  size : M ≤ W.heap.size
theorem ScanI.own {n0 M B : Nat} {w : World} (h0 : n0 ≤ w.heap.size) (hB : n0 ≤ B) : OwnFrom B (ScanI n0 M w) := fun pre W W' row h hg hr => by
  have hr' : ∀ r, row = some r → ∃ o : Obj, W.heap[r]? = some o ∧ o.isCells = false := fun r e => (hr r e).2
  have nb : ∀ {b : Nat} {t : TypeId} {u : Value}, Boxed W b t u → Boxed W' b t u := fun {b t u} hb => hb.kept hg (fun e => by
    obtain ⟨o, ho, hc⟩ := hr' b e.symm
    rw [show W.heap[b]? = _ from hb] at ho
    cases ho
    cases hc)
  obtain ⟨a, c, h1, h2⟩ := h.row
  exact ⟨nb h.box, ⟨a, c, nb h1, h2.keptNC hg hr'⟩, fun x hx => (h.items x hx).keptNC hg hr', h.ap, h.bel.grown hg (Nat.le_trans h0 h.bel.size) (fun k e => Nat.le_trans hB (hr k e).1), Nat.le_trans h.size hg.size⟩
theorem itemOk_own {bs : List Nat} {base B : Nat} (pre : List Item) : OwnFrom B (ItemOk bs base pre) := fun _ _ _ _ h hg hr => ⟨h.row.keptNC hg (fun r e => (hr r e).2), h.apart, h.room, h.next⟩

/-- One round of Scan's loop. -/
theorem scan_body {bs : List Nat} {n0 M k : Nat} {w W w2 : World} {pre : List Item} {x : Item} {a : Option Addr} {c g' cap' : Nat} {tmp : Obj} {K : Nat → Prop} (hI : ScanI n0 M w pre W) (hP : ItemOk bs M pre x W)
    (hv : Boxed W n0 23 (.slice a pre.length c)) (hrow : W.ownsRow M 22 1 (.slice a pre.length c) k (pre.map Item.v)) (hnM : n0 + 2 ≤ M) (_hw : n0 ≤ w.heap.size)
    (hK : ∀ k, K k → k < M ∧ k ≠ n0 ∧ k ≠ n0 + 1) (hown' : w2.ownsRow M 22 1 (.slice (some ⟨g', 0, none⟩) (pre.length + 1) cap') (pre.length + 1) (pre.map Item.v ++ [x.v])) (hgrow : (W.alloc tmp).grownBy w2 (Value.slice a pre.length c).ownBlock) :
    Boxed w2 n0 23 (.slice a pre.length c) ∧ Boxed (w2.setCell ⟨n0, 0, none⟩ (.slice (some ⟨g', 0, none⟩) (pre.length + 1) cap')) (n0 + 1) 3 (.int .i64 ((endD (pre.map Item.d) : Nat) : Int)) ∧
    KeepsOthers W ((w2.setCell ⟨n0, 0, none⟩ (.slice (some ⟨g', 0, none⟩) (pre.length + 1) cap')).setCell ⟨n0 + 1, 0, none⟩ (.int .i64 ((x.pl : Int) + (x.p.length : Int) + 8))) ∧ Still K W ((w2.setCell ⟨n0, 0, none⟩ (.slice (some ⟨g', 0, none⟩) (pre.length + 1) cap')).setCell ⟨n0 + 1, 0, none⟩ (.int .i64 ((x.pl : Int) + (x.p.length : Int) + 8))) ∧
    ScanI n0 M w (pre ++ [x]) ((w2.setCell ⟨n0, 0, none⟩ (.slice (some ⟨g', 0, none⟩) (pre.length + 1) cap')).setCell ⟨n0 + 1, 0, none⟩ (.int .i64 ((x.pl : Int) + (x.p.length : Int) + 8))) := by
  have b0 : Boxed w2 n0 23 (.slice a pre.length c) := (hv.alloc tmp).kept hgrow (hv.not_row (by decide) hrow)
  have b1 : Boxed w2 (n0 + 1) 3 (.int .i64 ((endD (pre.map Item.d) : Nat) : Int)) := (hI.box.alloc tmp).kept hgrow (hI.box.not_row (by decide) hrow)
  generalize hv' : Value.slice (some ⟨g', 0, none⟩) (pre.length + 1) cap' = v' at *
  have b1' : Boxed (w2.setCell ⟨n0, 0, none⟩ v') (n0 + 1) 3 (.int .i64 ((endD (pre.map Item.d) : Nat) : Int)) := b1.other (by omega) v'
  have b0' : Boxed (w2.setCell ⟨n0, 0, none⟩ v') n0 23 v' := b0.set v'
  have r3 : (w2.setCell ⟨n0, 0, none⟩ v').ownsRow M 22 1 v' (pre.length + 1) (pre.map Item.v ++ [x.v]) := hown'.kept (grownBy_setCell' w2 n0 v') (.inr (b0.not_row (by decide) hown').symm)
  generalize hu : Value.int .i64 ((x.pl : Int) + (x.p.length : Int) + 8) = u at *
  have r4 : ((w2.setCell ⟨n0, 0, none⟩ v').setCell ⟨n0 + 1, 0, none⟩ u).ownsRow M 22 1 v' (pre.length + 1) (pre.map Item.v ++ [x.v]) := r3.kept (grownBy_setCell' _ (n0 + 1) u) (.inr (b1'.not_row (by decide) r3).symm)
  have hM := hI.size
  have ro : ∀ g, (Value.slice a pre.length c).ownBlock = some g → M ≤ g := fun g hg => (World.ownsRow.lt hrow g hg).1
  have kp : Kp (fun g => g = n0 ∨ g = n0 + 1 ∨ (Value.slice a pre.length c).ownBlock = some g) W ((w2.setCell ⟨n0, 0, none⟩ v').setCell ⟨n0 + 1, 0, none⟩ u) := by
    refine Kp.trans (Kp.trans (Kp.trans (Kp.of_below (below_alloc W tmp) _) (Kp.of_grown hgrow) (fun g _ h => .inr (.inr h))) (Kp.of_grown (grownBy_setCell' w2 n0 v')) (fun g _ h => .inl (by injection h with h; exact h.symm))) (Kp.of_grown (grownBy_setCell' _ (n0 + 1) u)) (fun g _ h => .inr (.inl (by injection h with h; exact h.symm)))
  refine ⟨b0, b1', ?_, ⟨kp.size, fun k hk => ?_⟩, ?_⟩
  · refine (((KeepsOthers.alloc W tmp).trans (KeepsOthers.of_grownBy hgrow fun j o ej hj => ?_)).trans (KeepsOthers.setCell _ _ _)).trans (KeepsOthers.setCell _ _ _)
    rcases (hrow.alloc tmp).2 with ⟨e, _⟩ | ⟨g, cap, cur, e, _, hgb, _⟩
    · rw [e] at ej; simp [Value.ownBlock] at ej
    · rw [e] at ej
      obtain rfl : g = j := by simpa [Value.ownBlock] using ej
      rw [hgb] at hj; cases hj; rfl
  · obtain ⟨h1, h2, h3⟩ := hK k hk
    exact kp.block k (by omega) (fun h => by
      rcases h with h | h | h
      · exact h2 h
      · exact h3 h
      · have := ro k h; omega)
  · have keep : ∀ {y : Item}, RowB 5 M W y.v y.p → RowB 5 M ((w2.setCell ⟨n0, 0, none⟩ v').setCell ⟨n0 + 1, 0, none⟩ u) y.v y.p := fun {y} hy => RowV.kp hy kp (fun g hg h => by
      rcases h with h | h | h
      · have := hy.block_ge hg; omega
      · have := hy.block_ge hg; omega
      · have h' : RowV 22 M W (.slice a pre.length c) (pre.map Item.v) := by
          obtain ⟨q, hq⟩ := hI.row
          obtain ⟨c2, q1, q2⟩ := hq
          have e := (show W.heap[n0]? = _ from hv).symm.trans q1
          have : Value.slice a pre.length c = Value.slice q pre.length c2 := by simpa using e
          rw [this]; exact q2
        exact rows_ne hy h' (by decide) hg h)
    refine ⟨?_, ⟨some ⟨g', 0, none⟩, cap', ?_, ?_⟩, fun y hy => ?_, ?_, ?_, Nat.le_trans hM kp.size⟩
    · have e : u = .int .i64 ((endD ((pre ++ [x]).map Item.d) : Nat) : Int) := by
        rw [← hu, List.map_append, List.map_cons, List.map_nil, endD_snoc]
        simp [Item.d]
      rw [← e]
      exact b1'.set u
    · rw [List.length_append, List.length_singleton, hv']
      exact b0'.other (by omega) u
    · rw [List.length_append, List.length_singleton, hv', List.map_append, RowV, List.length_append, List.length_map]
      exact r4
    · rcases List.mem_append.1 hy with h | h
      · exact keep (hI.items y h)
      · simp at h; subst h; exact keep hP.row
    · rw [List.pairwise_append]
      refine ⟨hI.ap, List.pairwise_singleton _ _, fun y hy z hz => ?_⟩
      simp at hz; subst hz
      exact hP.apart y hy
    · refine hI.bel.trans ⟨kp.os, kp.tape, kp.output, kp.size, fun k hk => kp.block k (by have := hI.bel.size; omega) (fun h => ?_)⟩
      rcases h with h | h | h
      · omega
      · omega
      · have := ro k h; omega

/-- A row of rows of bytes, all in memory of the call's own, apart from one another. -/
structure RowsV (base : Nat) (w : World) (v : Value) (ps : List (List Nat)) : Prop where
  row : ∃ vs : List Value, RowV 22 base w v vs ∧ vs.length = ps.length ∧ (∀ x ∈ vs.zip ps, RowB 5 base w x.1 x.2) ∧ vs.Pairwise (fun a b => ∀ g, a.ownBlock = some g → b.ownBlock ≠ some g)
theorem RowsV.later {base : Nat} {w w' : World} {v : Value} {ps : List (List Nat)} (h : RowsV base w v ps) (hb : Below w.heap.size w w') : RowsV base w' v ps := by
  obtain ⟨vs, h1, h2, h3, h4⟩ := h.row
  exact ⟨vs, RowV.later h1 hb, h2, fun x hx => RowV.later (h3 x hx) hb, h4⟩
theorem rows_of {n0 M : Nat} {w W : World} {pre : List Item} {a : Option Addr} {c : Nat} (h : ScanI n0 M w pre W) (hr : RowV 22 M W (.slice a pre.length c) (pre.map Item.v)) : RowsV M W (.slice a pre.length c) (pre.map Item.p) := by
  refine ⟨pre.map Item.v, hr, by simp, fun x hx => ?_, ?_⟩
  · rw [List.zip_map', List.mem_map] at hx
    obtain ⟨y, hy, rfl⟩ := hx
    exact h.items y hy
  · rw [List.pairwise_map]
    exact h.ap

/-- The bytes from a place on, as the language slices them. -/
theorem RdB.from {w : World} {ao : Option Addr} {cap A : Nat} {bs : List Nat} (h : RdB w (.slice ao bs.length cap) bs) (hA : A ≤ bs.length) : RdB w (.slice (if A = cap then ao else ao.map (fun x => x.add A)) (bs.length - A) (cap - A)) (bs.drop A) := by
  obtain ⟨ao', cap', e, hcap, hnil⟩ := h.len
  injection e with e1 e2 e3
  subst e1 e3
  rw [List.length_map] at hcap
  have tail : ∀ ad : Option Addr, (A < bs.length → ad = ao.map (fun x => x.add A)) → (ad = none → cap - A = 0) → RdB w (.slice ad (bs.length - A) (cap - A)) (bs.drop A) := fun ad h1 h2 => by
    have r := Rd.tail (k := A) (ad := ad) h hA (fun g o e hk => by rw [h1 hk, e]; simp [Addr.add_lit]) h2
    rw [← List.map_drop] at r
    exact r
  by_cases hc : A = cap
  · rw [if_pos hc]
    exact tail ao (fun hk => by omega) (fun _ => by omega)
  · rw [if_neg hc]
    refine tail _ (fun _ => rfl) (fun e => ?_)
    cases ao with
    | none => have := hnil rfl; omega
    | some ad => cases e

theorem RowsV.kp {base : Nat} {w w' : World} {v : Value} {ps : List (List Nat)} {M : Nat → Prop} (h : RowsV base w v ps) (k : Kp M w w') (hm : ∀ g, M g → g < base) : RowsV base w' v ps := by
  obtain ⟨vs, h1, h2, h3, h4⟩ := h.row
  exact ⟨vs, RowV.kp h1 k (fun g hg hM => by have := h1.block_ge hg; have := hm g hM; omega), h2, fun x hx => RowV.kp (h3 x hx) k (fun g hg hM => by have := (h3 x hx).block_ge hg; have := hm g hM; omega), h4⟩
theorem RowsV.mono {base base' : Nat} {w : World} {v : Value} {ps : List (List Nat)} (h : RowsV base w v ps) (hb : base' ≤ base) : RowsV base' w v ps := by
  obtain ⟨vs, h1, h2, h3, h4⟩ := h.row
  exact ⟨vs, h1.mono hb, h2, fun x hx => (h3 x hx).mono hb, h4⟩
theorem RowsV.putObj {base l : Nat} {w : World} {v : Value} {ps : List (List Nat)} {o o' : Obj} (h : RowsV base w v ps) (hl : w.heap[l]? = some o) (ho : o.isCells = false) : RowsV base (w.putObj l o') v ps := by
  have hr : ∀ r, some l = some r → ∃ o : Obj, w.heap[r]? = some o ∧ o.isCells = false := fun r e => by cases e; exact ⟨o, hl, ho⟩
  obtain ⟨vs, h1, h2, h3, h4⟩ := h.row
  exact ⟨vs, h1.keptNC (grownBy_putObj' w l o') hr, h2, fun x hx => (h3 x hx).keptNC (grownBy_putObj' w l o') hr, h4⟩

/-- Scan's answer. -/
def ScanIs (bs : List Nat) (w : World) (e : Ending) (w' : World) : Prop := ∃ a c, e = .returned (.tuple #[.slice a (CrcM.scan bs).1.length c, .int .i64 (((CrcM.scan bs).2.1 : Nat) : Int), .int .i64 (((CrcM.scan bs).2.2 : Nat) : Int)]) ∧ RowsV w.heap.size w' (.slice a (CrcM.scan bs).1.length c) (CrcM.scan bs).1 ∧ Below w.heap.size w w'

theorem loadVar_plain {ty : TypeId} {d : TypeDesc} (hu : Tryd.prog.underlying ty = some d) (hd : (match d with | .struct _ | .array _ _ => true | _ => false) = false) {w : World} {a : Addr} {v : Value} (h : w.cell? a = some v) : (loadVar ty a).run Tryd.prog w = .ok v w := by
  unfold loadVar isAgg
  simp [Sem.run_bind, run_underlying hu, Result.andThen]
  cases d <;> simp_all [go_sem]
theorem results_cct {fn : Func} {p q u : Tmp} {ty1 ty2 : TypeId} (h : fn.results = #[.cell p ty1, .cell q ty2, .tmp u]) (tmps : Array Value) (w : World) {a b : Addr} {x y z : Value} (hz : tmps.getD u undef = z) (hp : tmps.getD p undef = .pointer (some a)) (hq : tmps.getD q undef = .pointer (some b))
    (hx : (loadVar ty1 a).run Tryd.prog w = .ok x w) (hy : (loadVar ty2 b).run Tryd.prog w = .ok y w) : (results fn tmps).run Tryd.prog w = .ok (.tuple #[x, y, z]) w := by
  subst hz
  have hp' : tmps[p]?.getD undef = .pointer (some a) := by simpa using hp
  have hq' : tmps[q]?.getD undef = .pointer (some b) := by simpa using hq
  simp [results, h, hp', hq', asAddr, hx, hy]

theorem scan_fin {n n0 M E : Nat} {w W Wf : World} {PS : List (List Nat)} {a : Option Addr} {c : Nat} (hK : W.heap[M]? = some (.deferred (some []))) (b0 : Boxed W n0 23 (.slice a PS.length c)) (b1 : Boxed W (n0 + 1) 3 (.int .i64 (E : Int)))
    (hr : RowsV M W (.slice a PS.length c) PS) (hb : Below n0 w W) (hM : n0 + 2 ≤ M) (_hw : n0 ≤ w.heap.size) (e : (((W.drewN n).setCell ⟨n0, 0, none⟩ (.slice a PS.length c)).setCell ⟨n0 + 1, 0, none⟩ (.int .i64 (E : Int))) = Wf) :
    Wf.heap[M]? = some (.deferred (some [])) ∧ (Wf.putObj M (.deferred none)).cell? ⟨n0, 0, none⟩ = some (.slice a PS.length c) ∧ (Wf.putObj M (.deferred none)).cell? ⟨n0 + 1, 0, none⟩ = some (.int .i64 (E : Int)) ∧ RowsV n0 (Wf.putObj M (.deferred none)) (.slice a PS.length c) PS ∧ Below n0 w (Wf.putObj M (.deferred none)) := by
  subst e
  have c0 : Boxed ((W.drewN n).setCell ⟨n0, 0, none⟩ (.slice a PS.length c)) n0 23 (.slice a PS.length c) := Boxed.set _ (show Boxed (W.drewN n) n0 23 (.slice a PS.length c) from b0)
  have c1 : Boxed ((W.drewN n).setCell ⟨n0, 0, none⟩ (.slice a PS.length c)) (n0 + 1) 3 (.int .i64 (E : Int)) := Boxed.other (show Boxed (W.drewN n) (n0 + 1) 3 (.int .i64 (E : Int)) from b1) (by omega) _
  have d0 := c0.other (show n0 ≠ n0 + 1 by omega) (.int .i64 (E : Int))
  have d1 := c1.set (.int .i64 (E : Int))
  have hk : (((W.drewN n).setCell ⟨n0, 0, none⟩ (.slice a PS.length c)).setCell ⟨n0 + 1, 0, none⟩ (.int .i64 (E : Int))).heap[M]? = some (.deferred (some [])) := ((KeepsOthers.setCell (W.drewN n) ⟨n0, 0, none⟩ (.slice a PS.length c)).trans (KeepsOthers.setCell _ _ _)).same M _ hK rfl
  have kp : Kp (fun g => g = n0 ∨ g = n0 + 1) W (((W.drewN n).setCell ⟨n0, 0, none⟩ (.slice a PS.length c)).setCell ⟨n0 + 1, 0, none⟩ (.int .i64 (E : Int))) :=
    Kp.trans (Kp.trans ((Kp.refl _ W).drewN n) (Kp.of_grown (grownBy_setCell' _ n0 _)) (fun g _ h => .inl (by injection h with h; exact h.symm))) (Kp.of_grown (grownBy_setCell' _ (n0 + 1) _)) (fun g _ h => .inr (by injection h with h; exact h.symm))
  have hr1 := RowsV.kp hr kp (fun g hg => by omega)
  have nb : ∀ {Wf : World} {b : Nat} {t : TypeId} {u : Value}, Wf.heap[M]? = some (.deferred (some [])) → Boxed Wf b t u → (Wf.putObj M (.deferred none)).cell? ⟨b, 0, none⟩ = some u := fun hk hb => Boxed.cell (hb.kept (grownBy_putObj' _ M (.deferred none)) (fun e => by
    injection e with e
    subst e
    rw [show _ = _ from hb] at hk
    cases hk))
  refine ⟨hk, nb hk d0, nb hk d1, (hr1.putObj hk rfl).mono (by omega), ?_⟩
  refine hb.trans ⟨kp.os, kp.tape, kp.output, ?_, fun k hk' => ?_⟩
  · exact Nat.le_trans kp.size (by simp)
  · rw [World.putObj_heap_other (by omega)]
    exact kp.block k (by have := hb.size; omega) (fun h => by omega)

set_option maxRecDepth 100000 in
set_option maxHeartbeats 1000000 in
theorem scan_at (bs : List Nat) (v : Value) (w : World) (hb : ∀ b ∈ bs, b < 256) (hl : bs.length ≤ 1000000000) (h : RdB w v bs) (hT : TabS w) :
    Calls Tryd.prog 10 #[v] w (ScanIs bs w) := by
  obtain ⟨i0, hi, hz0, hz1, hz2⟩ := info_parts infoS
  have ALL : Hid (∀ w', Below w.heap.size w w' → CallsIn Fence.wide 1 Tryd.prog 6 #[v] w' fun e w'' => ∃ Bo ov, e = .returned (.func (.func 15) #[] #[.pointer (some ⟨Bo, 0, none⟩)]) ∧ AllIs bs w' Bo ov w'') := fun w' hb' => callsIn_wide.2 (all_at bs v w' (by omega) (Rd.later h hb'))
  have HB : Hid (∀ b ∈ bs, b < 256) := hb
  have HT : Hid (∀ w', Below w.heap.size w w' → TabS w') := fun w' hb' => hT.below hb'
  have GLT : Hid (0 < w.heap.size) := hT.lt
  have RD : Hid (∀ w', Below w.heap.size w w' → RdB w' v bs) := fun w' hb' => Rd.later h hb'
  obtain ⟨ao, cap, rfl, hcap, hnil⟩ := h.len
  have hl0 : (bs.map bv).length = bs.length := List.length_map ..
  rw [hl0] at ALL RD hcap ⊢
  have HLL : Hid (bs.length ≤ 1000000000) := hl
  clear hb hT h hl0 hl
  obtain ⟨n0, hn0⟩ : ∃ n, w.heap.size = n := ⟨_, rfl⟩
  have HN0 : Hid (w.heap.size = n0) := hn0
  have BB := below_trans (below_alloc w (.cells #[.slice none 0 0] 23)) (below_alloc (w.alloc (.cells #[.slice none 0 0] 23)) (.cells #[.int .i64 0] 3))
  have X0 := (Boxed.new w 23 (.slice none 0 0)).alloc (.cells #[.int .i64 0] 3)
  have X1 := Boxed.new (w.alloc (.cells #[.slice none 0 0] 23)) 3 (.int .i64 0)
  rw [World.size_alloc, hn0] at X1
  rw [hn0] at X0 BB ALL RD HT GLT
  clear hn0
  refine (callsIn_wide (n := 2)).1 ?_
  refine callsIn_of_wp_marks Tryd.func10 rfl trivial ?_ rfl
  simp only [Tryd.ntmps10, List.size_toArray, List.length_cons, List.length_nil, Nat.reduceAdd, Nat.reduceSub, Array.replicate_succ, Array.replicate_zero, List.push_toArray, List.append_toArray, List.nil_append, List.cons_append]
  gi_wp2
  refine ⟨trivial, (ALL.out _ BB).mono ?_⟩
  rintro e w1 ⟨Bo, ov, rfl, hA⟩
  rw [HN0.out]
  have hsz2 : ((w.alloc (.cells #[.slice none 0 0] 23)).alloc (.cells #[.int .i64 0] 3)).heap.size = n0 + 2 := by simp [HN0.out]
  have lo := hA.lo
  have hhi := hA.hi
  have B1 : Below n0 w w1 := BB.trans (hA.bel.mono (by omega))
  have OV := fun g (hg : ov.ownBlock = some g) => And.intro (hA.own.block_ge hg) (hA.own.block_lt hg)
  rw [hsz2] at lo OV
  have X0' : Boxed w1 n0 23 (.slice none 0 0) := X0.kept (grown_of_below hA.bel) (by simp)
  have X1' : Boxed w1 (n0 + 1) 3 (.int .i64 0) := X1.kept (grown_of_below hA.bel) (by simp)
  have ENV : Env bs ov Bo w1 := ⟨RowV.rd hA.own, hA.box, HT.out _ B1⟩
  gi_wp2
  have seq := iter_tells bs ov Bo w1 (fun k => k = 0 ∨ k = Bo ∨ ov.ownBlock = some k) HB.out (by have := HLL.out; omega) ENV (.inl rfl) (.inr (.inl rfl)) (fun g hg => .inr (.inr hg))
  refine wpIn_range_tells (n := 0) rfl (enters_of Tryd.func15 (by kernel_rfl) rfl) seq (Below.refl _ _) (fun k hk => ?_) (fun _ => rfl) (ScanI n0 w1.heap.size w) (fun _ _ _ => False)
    (ScanI.own (by have := HN0.out; omega) (by have := B1.size; have := HN0.out; omega)) (fun _ _ _ _ _ hs _ _ => hs) itemOk_own ?_
    (fun x => { tmps := #[.slice ao bs.length cap, undef, .pointer (some ⟨n0, 0, none⟩), .pointer (some ⟨n0 + 1, 0, none⟩), .int .i64 0, .int .i64 (x.pl : Int), .slice x.a x.p.length x.c, .slice ao bs.length cap, .func (.func 15) #[] #[.pointer (some ⟨Bo, 0, none⟩)], .int .i64 (x.pl : Int), .slice x.a x.p.length x.c, undef, undef, undef, undef, undef, undef, undef, undef, undef, undef, undef, undef, undef, undef, undef, undef, undef, undef, undef], defers := [] }) ?assign ?body ?done ?stop
  · rcases hk with rfl | rfl | hk
    · exact (HT.out _ B1).lt
    · exact hhi
    · exact (OV k hk).2
  · exact ⟨X1', ⟨none, 0, X0', RowV.nil _ _ _⟩, (fun x hx => nomatch hx), List.Pairwise.nil, B1, Nat.le_refl _⟩
  case assign =>
    intro l x W C hC
    unfold Item.enc
    gi_wp2
    exact hC
  case body =>
    rintro l pre x W hI hP
    obtain ⟨a, c, hv, hrow⟩ := hI.row
    have hrow' : W.ownsRow w1.heap.size 22 1 (.slice a pre.length c) pre.length (pre.map Item.v) := by have := hrow; rw [RowV, List.length_map] at this; exact this
    have hc := hv.cell
    have cnt := item_count hP
    have hM := hI.size
    have hr := hP.room
    have big := HLL.out
    have b1 : pre.length + 1 ≤ maxLen := by unfold maxLen; omega
    have b2 : (pre.length + 1) * 24 ≤ 140737488355328 := by omega
    have one : ∀ u ∈ [x.v], u.oneCell' = true := fun u hu => by simp at hu; subst hu; rfl
    have hP' : Hid (ItemOk bs w1.heap.size pre x W) := hP
    have hI' : Hid (ScanI n0 w1.heap.size w pre W) := hI
    have hKn : Hid (∀ k, (k = 0 ∨ k = Bo ∨ ov.ownBlock = some k) → k < w1.heap.size ∧ k ≠ n0 ∧ k ≠ n0 + 1) := fun k hk => by
      rcases hk with rfl | rfl | hk
      · exact ⟨(HT.out _ B1).lt, by have := GLT.out; omega, by have := GLT.out; omega⟩
      · exact ⟨hhi, by omega, by omega⟩
      · have := OV k hk; exact ⟨this.2, by omega, by omega⟩
    clear hP hI hA OV ENV seq
    gi_wp2_with (gi_at_builtin; refine wpListIn_append_own _ rfl _ _ 23 rfl w1.heap.size 22 i0 (.slice none 0 0) 1 24 underS hi hz0 hz1 hz2 rfl (by decide) _ _ _ rfl (hrow'.alloc _) ⟨W.heap.size, 0, none⟩ 1 1 [x.v] rfl rfl (cell_one_new _ _ _) one b1 b2 (by simp; omega) ?_; intro v' w2 hown' hgrow _; obtain ⟨g', cap', rfl⟩ := ownsRow_succ hown'; obtain ⟨y0, y1, fin⟩ := scan_body hI'.out hP'.out hv hrow' (by omega) (by have := HN0.out; omega) hKn.out hown' hgrow; have hc1 := y0.cell; have hf1 := y0.frozen; have hc2 := y1.cell; have hf2 := y1.frozen)
    exact fin
  case done =>
    rintro xs W hS hI hK
    obtain ⟨a, c, hv, hrow⟩ := hI.row
    have hc := hv.cell
    have hf := hv.frozen
    have hx1 := hI.box
    have eE : endD (xs.map Item.d) = (CrcM.scan bs).2.1 := by rw [hS, endD_all]
    have eP : xs.map Item.p = (CrcM.scan bs).1 := by
      have := congrArg (List.map (·.2)) hS
      rw [allL, places_snd, List.map_map] at this
      exact this
    have eL : xs.length = (CrcM.scan bs).1.length := by rw [← eP, List.length_map]
    rw [eE] at hx1
    have hc1 := hx1.cell
    have hf1 := hx1.frozen
    obtain ⟨e1, e2, e3⟩ := CrcM.scan_end _ bs (Nat.le_refl _)
    have RV := rows_of hI hrow
    rw [eP] at RV
    rw [eL] at hv hc hrow RV
    have hrd := RD.out W hI.bel
    have hWT := HT.out W hI.bel
    have hbel : Hid (Below n0 w W) := hI.bel
    have hRV : Hid (RowsV w1.heap.size W (.slice a (CrcM.scan bs).1.length c) (CrcM.scan bs).1) := RV
    have HE2 : Hid ((CrcM.scan bs).2.2 = (CrcM.whole (bs.drop (CrcM.scan bs).2.1)).2) := e2
    have FIN : Hid (∀ w' a c, RowsV n0 w' (.slice a (CrcM.scan bs).1.length c) (CrcM.scan bs).1 → Below n0 w w' → ScanIs bs w (.returned (.tuple #[.slice a (CrcM.scan bs).1.length c, .int .i64 (((CrcM.scan bs).2.1 : Nat) : Int), .int .i64 (((CrcM.scan bs).2.2 : Nat) : Int)])) w') := fun w' a c h1 h2 => ⟨a, c, rfl, by rw [HN0.out]; exact h1, by rw [HN0.out]; exact h2⟩
    have hB0 : Hid (Boxed W n0 23 (.slice a (CrcM.scan bs).1.length c)) := hv
    have hB1 : Hid (Boxed W (n0 + 1) 3 (.int .i64 (((CrcM.scan bs).2.1 : Nat) : Int))) := hx1
    clear hI hrow RV seq hS eE eP eL e2 e3 hA ENV OV hv hx1
    generalize hE : (CrcM.scan bs).2.1 = E at *
    generalize (CrcM.scan bs).1 = PS at *
    generalize (CrcM.scan bs).2.2 = T at *
    have WH : Hid (∀ ad, (ad = if E = cap then ao else ao.map (fun x => x.add E)) → CallsIn Fence.wide 1 Tryd.prog 18 #[.slice ad (bs.length - E) (cap - E)] W (WholeIs (bs.drop E) W)) := fun ad had => callsIn_wide.2 (by
      rw [had]
      exact whole_at _ _ W (fun b hb' => HB.out b (List.mem_of_mem_drop hb')) (by have := HLL.out; rw [List.length_drop]; omega) (RdB.from hrd e1) hWT)
    have big := HLL.out
    unfold WholeIs at WH
    rw [← HE2.out] at WH
    clear hrd hWT HE2 hE
    by_cases hce : E = cap
    · have WH' := WH.out ao (by rw [if_pos hce])
      subst hce
      have hLE : bs.length = E := by omega
      rw [hLE] at WH' e1 hcap big
      rw [hLE]
      simp only [Nat.sub_self] at WH'
      have WHX : Hid (CallsIn Fence.wide 1 Tryd.prog 18 #[.slice ao 0 0] W fun e w' => e = .returned (.tuple #[.int .i64 (((CrcM.whole (bs.drop E)).1 : Nat) : Int), .int .i64 ((T : Nat) : Int)]) ∧ ∃ n, w' = W.drewN n) := WH'
      clear WH' WH hLE
      generalize (CrcM.whole (bs.drop E)).1 = Z at *
      gi_wp2
      refine ⟨trivial, WHX.out.mono ?_⟩
      rintro e w3 ⟨rfl, n, rfl⟩
      gi_wp2
      gi_region
      all_goals gi_wp2
      obtain ⟨Wf, hWf⟩ : ∃ Wf, (((W.drewN (n + 1)).setCell ⟨n0, 0, none⟩ (.slice a PS.length c)).setCell ⟨n0 + 1, 0, none⟩ (.int .i64 (E : Int))) = Wf := ⟨_, rfl⟩
      have F := scan_fin (n := n + 1) hK hB0.out hB1.out hRV.out hbel.out (by omega) (by have := HN0.out; omega) hWf
      rw [hWf]
      refine ⟨by simp, .inl ⟨_, _, rfl, run_takeDeferred F.1, ?_⟩⟩
      exact ⟨_, results_cct rfl _ _ (z := .int .i64 (T : Int)) rfl rfl rfl (loadVar_plain underS rfl F.2.1) (loadVar_plain Tryd.underlying3 rfl F.2.2.1), FIN.out _ _ _ F.2.2.2.1 F.2.2.2.2⟩
    · have WHX : Hid (CallsIn Fence.wide 1 Tryd.prog 18 #[.slice (ao.map (fun x => x.add E)) (bs.length - E) (cap - E)] W fun e w' => e = .returned (.tuple #[.int .i64 (((CrcM.whole (bs.drop E)).1 : Nat) : Int), .int .i64 ((T : Nat) : Int)]) ∧ ∃ n, w' = W.drewN n) := WH.out _ (by rw [if_neg hce])
      clear WH
      generalize (CrcM.whole (bs.drop E)).1 = Z at *
      generalize bs.length = L at *
      gi_wp2
      refine ⟨trivial, WHX.out.mono ?_⟩
      rintro e w3 ⟨rfl, n, rfl⟩
      gi_wp2
      gi_region
      all_goals gi_wp2
      obtain ⟨Wf, hWf⟩ : ∃ Wf, (((W.drewN (n + 1)).setCell ⟨n0, 0, none⟩ (.slice a PS.length c)).setCell ⟨n0 + 1, 0, none⟩ (.int .i64 (E : Int))) = Wf := ⟨_, rfl⟩
      have F := scan_fin (n := n + 1) hK hB0.out hB1.out hRV.out hbel.out (by omega) (by have := HN0.out; omega) hWf
      rw [hWf]
      refine ⟨by simp, .inl ⟨_, _, rfl, run_takeDeferred F.1, ?_⟩⟩
      exact ⟨_, results_cct rfl _ _ (z := .int .i64 (T : Int)) rfl rfl rfl (loadVar_plain underS rfl F.2.1) (loadVar_plain Tryd.underlying3 rfl F.2.2.1), FIN.out _ _ _ F.2.2.2.1 F.2.2.2.2⟩
  case stop =>
    rintro c pre W _ hf _
    exact hf.elim
end Go.Proofs.YteflbdlfjebccaaDoor
