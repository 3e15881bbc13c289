/-
  Ours: frame.All and frame.Scan.
-/
import Derived.Test.YtcmfehabcklbpaaDoorFrmIter
import Derived.RangeFuncNested
import Derived.Maps.AppendAt
namespace Go.Proofs.YtcmfehabcklbpaaDoor
open Go.RowKit Go.Shelf
attribute [local go_sem] Oper.semAt_some

/-- All's answer: the function, its box, the file's copy. -/
structure AllIs (bs : List Nat) (w : World) (Bo : Nat) (ov : Value) (w' : World) : Prop where
  lo : w.heap.size ≤ Bo
  hi : Bo < w'.heap.size
  own : RowB 5 w.heap.size w' ov bs
  box : w'.cell? ⟨Bo, 0, none⟩ = some ov
  bel : Below w.heap.size w w'

theorem infoS : (Tryd.prog.info? 22).map (fun i => (i.zero, i.size, i.bytes)) = some (some (.slice none 0 0), 1, 24) := by kernel_rfl
theorem underS : Tryd.prog.underlying 32 = some (.slice 22) := by kernel_rfl

theorem RowV.keptNC {e : TypeId} {base : Nat} {w w' : World} {v : Value} {row : Option Nat} {xs : List Value} (h : RowV e base w v xs) (hb : w.grownBy w' row) (hn : ∀ r, row = some r → ∃ o : Obj, w.heap[r]? = some o ∧ o.isCells = false) : RowV e base w' v xs := by
  refine RowV.kept h hb fun g hg e => ?_
  obtain ⟨o, ho, hc⟩ := hn g e
  rcases h.2 with ⟨rfl, _⟩ | ⟨g', cap, cur, rfl, _, hh, _⟩
  · simp [Value.ownBlock] at hg
  · obtain rfl : g' = g := by simpa [Value.ownBlock] using hg
    rw [hh] at ho
    cases ho
    cases hc
theorem rows_ne {e e' : TypeId} {base base' : Nat} {w : World} {v v' : Value} {xs ys : List Value} (h : RowV e base w v xs) (h' : RowV e' base' w v' ys) (hne : e ≠ e') {g : Nat} (hg : v.ownBlock = some g) : v'.ownBlock ≠ some g := by
  intro hg'
  rcases h.2 with ⟨rfl, _⟩ | ⟨g1, cap, cur, rfl, _, hh, _⟩
  · simp [Value.ownBlock] at hg
  rcases h'.2 with ⟨rfl, _⟩ | ⟨g2, cap', cur', rfl, _, hh', _⟩
  · simp [Value.ownBlock] at hg'
  obtain rfl : g1 = g := by simpa [Value.ownBlock] using hg
  obtain rfl : g2 = g1 := by simpa [Value.ownBlock] using hg'
  rw [hh] at hh'
  injection hh' with hh'
  injection hh' with h1 h2
  exact hne h2

/-- Where the last of these frames ends. -/
def endD (ds : List (Nat × List Nat)) : Nat := match ds.getLast? with | none => 0 | some x => x.1 + x.2.length + 8
theorem endD_snoc (ds : List (Nat × List Nat)) (x : Nat × List Nat) : endD (ds ++ [x]) = x.1 + x.2.length + 8 := by simp [endD]
theorem places_end : ∀ (ps : List (List Nat)) (a : Nat), ps ≠ [] → endD (places a ps) = a + CrcM.sizeL ps
  | [], _, h => absurd rfl h
  | [p], a, _ => by simp [places, endD, CrcM.sizeL_cons, CrcM.sizeL_nil]; omega
  | p :: q :: ps, a, _ => by
    have ih := places_end (q :: ps) (a + p.length + 8) (by simp)
    rw [CrcM.sizeL_cons]
    have e : endD (places a (p :: q :: ps)) = endD (places (a + p.length + 8) (q :: ps)) := by simp [places, endD]
    rw [e, ih]
    omega
theorem places_snd : ∀ (ps : List (List Nat)) (a : Nat), (places a ps).map (·.2) = ps
  | [], _ => rfl
  | p :: ps, a => by simp [places, places_snd ps]
theorem scan_size : ∀ (n : Nat) (l : List Nat), l.length ≤ n → (CrcM.scan l).2.1 = CrcM.sizeL (CrcM.scan l).1
  | n, l, hn => by
    by_cases h : (CrcM.whole l).1 = 0
    · rw [CrcM.scan_none h]; exact CrcM.sizeL_nil.symm
    · obtain ⟨h1, _, h3, h4, _⟩ := CrcM.whole_pos h
      have pl := CrcM.pay_len h
      match n with
      | 0 => omega
      | n + 1 =>
        have ih := scan_size n (l.drop (CrcM.whole l).1) (by simp; omega)
        rw [CrcM.scan_some h]
        simp only
        rw [CrcM.sizeL_cons, ih]
        omega
theorem endD_all (bs : List Nat) : endD (allL bs) = (CrcM.scan bs).2.1 := by
  rw [scan_size _ bs (Nat.le_refl _)]
  unfold allL
  by_cases h : (CrcM.scan bs).1 = []
  · rw [h]; exact CrcM.sizeL_nil.symm
  · rw [places_end _ _ h]; omega

theorem sizeL_ge : ∀ ps : List (List Nat), 8 * ps.length ≤ CrcM.sizeL ps
  | [] => by simp
  | p :: ps => by have := sizeL_ge ps; rw [CrcM.sizeL_cons, List.length_cons]; omega
theorem scan_count (bs : List Nat) : 8 * (CrcM.scan bs).1.length ≤ bs.length := by
  have h1 := sizeL_ge (CrcM.scan bs).1
  have h2 := scan_size _ bs (Nat.le_refl _)
  have h3 := (CrcM.scan_end _ bs (Nat.le_refl _)).1
  omega
theorem places_len : ∀ (ps : List (List Nat)) (a : Nat), (places a ps).length = ps.length
  | [], _ => rfl
  | p :: ps, a => by simp [places, places_len ps]
theorem item_count {bs : List Nat} {base : Nat} {pre : List Item} {x : Item} {W : World} (h : ItemOk bs base pre x W) : pre.length + 1 ≤ bs.length := by
  have h1 := h.next.length_le
  have h2 := scan_count bs
  rw [allL, places_len] at h1
  simp at h1
  omega

/-- What Scan's loop carries. -/
structure ScanI (n0 M : Nat) (w : World) (pre : List Item) (W : World) : Prop where
  box : Boxed W (n0 + 1) 3 (.int .i64 ((endD (pre.map Item.d) : Nat) : Int))
  row : ∃ a c, Boxed W n0 32 (.slice a pre.length c) ∧ RowV 22 M W (.slice a pre.length c) (pre.map Item.v)
  items : ∀ x ∈ pre, RowB 5 M W x.v x.p
  ap : pre.Pairwise (fun x y => ∀ g, x.v.ownBlock = some g → y.v.ownBlock ≠ some g)
  bel : Below n0 w W
  size : M ≤ W.heap.size
theorem ScanI.own {n0 M B : Nat} {w : World} (h0 : n0 ≤ w.heap.size) (hB : n0 ≤ B) : OwnFrom B (ScanI n0 M w) := fun pre W W' row h hg hr => by
  have hr' : ∀ r, row = some r → ∃ o : Obj, W.heap[r]? = some o ∧ o.isCells = false := fun r e => (hr r e).2
  have nb : ∀ {b : Nat} {t : TypeId} {u : Value}, Boxed W b t u → Boxed W' b t u := fun {b t u} hb => hb.kept hg (fun e => by
    obtain ⟨o, ho, hc⟩ := hr' b e.symm
    rw [show W.heap[b]? = _ from hb] at ho
    cases ho
    cases hc)
  obtain ⟨a, c, h1, h2⟩ := h.row
  exact ⟨nb h.box, ⟨a, c, nb h1, h2.keptNC hg hr'⟩, fun x hx => (h.items x hx).keptNC hg hr', h.ap, h.bel.grown hg (Nat.le_trans h0 h.bel.size) (fun k e => Nat.le_trans hB (hr k e).1), Nat.le_trans h.size hg.size⟩
theorem itemOk_own {bs : List Nat} {base B : Nat} (pre : List Item) : OwnFrom B (ItemOk bs base pre) := fun _ _ _ _ h hg hr => ⟨h.row.keptNC hg (fun r e => (hr r e).2), h.apart, h.room, h.next⟩

/-- One round of Scan's loop. -/
theorem scan_body {bs : List Nat} {n0 M k : Nat} {w W w2 : World} {pre : List Item} {x : Item} {a : Option Addr} {c g' cap' : Nat} {tmp : Obj} {K : Nat → Prop} (hI : ScanI n0 M w pre W) (hP : ItemOk bs M pre x W)
    (hv : Boxed W n0 32 (.slice a pre.length c)) (hrow : W.ownsRow M 22 1 (.slice a pre.length c) k (pre.map Item.v)) (hnM : n0 + 2 ≤ M) (_hw : n0 ≤ w.heap.size)
    (hK : ∀ k, K k → k < M ∧ k ≠ n0 ∧ k ≠ n0 + 1) (hown' : w2.ownsRow M 22 1 (.slice (some ⟨g', 0, none⟩) (pre.length + 1) cap') (pre.length + 1) (pre.map Item.v ++ [x.v])) (hgrow : (W.alloc tmp).grownBy w2 (Value.slice a pre.length c).ownBlock) :
    Boxed w2 n0 32 (.slice a pre.length c) ∧ Boxed (w2.setCell ⟨n0, 0, none⟩ (.slice (some ⟨g', 0, none⟩) (pre.length + 1) cap')) (n0 + 1) 3 (.int .i64 ((endD (pre.map Item.d) : Nat) : Int)) ∧
    KeepsOthers W ((w2.setCell ⟨n0, 0, none⟩ (.slice (some ⟨g', 0, none⟩) (pre.length + 1) cap')).setCell ⟨n0 + 1, 0, none⟩ (.int .i64 ((x.pl : Int) + (x.p.length : Int) + 8))) ∧ Still K W ((w2.setCell ⟨n0, 0, none⟩ (.slice (some ⟨g', 0, none⟩) (pre.length + 1) cap')).setCell ⟨n0 + 1, 0, none⟩ (.int .i64 ((x.pl : Int) + (x.p.length : Int) + 8))) ∧
    ScanI n0 M w (pre ++ [x]) ((w2.setCell ⟨n0, 0, none⟩ (.slice (some ⟨g', 0, none⟩) (pre.length + 1) cap')).setCell ⟨n0 + 1, 0, none⟩ (.int .i64 ((x.pl : Int) + (x.p.length : Int) + 8))) := by
  have b0 : Boxed w2 n0 32 (.slice a pre.length c) := (hv.alloc tmp).kept hgrow (hv.not_row (by decide) hrow)
  have b1 : Boxed w2 (n0 + 1) 3 (.int .i64 ((endD (pre.map Item.d) : Nat) : Int)) := (hI.box.alloc tmp).kept hgrow (hI.box.not_row (by decide) hrow)
  generalize hv' : Value.slice (some ⟨g', 0, none⟩) (pre.length + 1) cap' = v' at *
  have b1' : Boxed (w2.setCell ⟨n0, 0, none⟩ v') (n0 + 1) 3 (.int .i64 ((endD (pre.map Item.d) : Nat) : Int)) := b1.other (by omega) v'
  have b0' : Boxed (w2.setCell ⟨n0, 0, none⟩ v') n0 32 v' := b0.set v'
  have r3 : (w2.setCell ⟨n0, 0, none⟩ v').ownsRow M 22 1 v' (pre.length + 1) (pre.map Item.v ++ [x.v]) := hown'.kept (grownBy_setCell' w2 n0 v') (.inr (b0.not_row (by decide) hown').symm)
  generalize hu : Value.int .i64 ((x.pl : Int) + (x.p.length : Int) + 8) = u at *
  have r4 : ((w2.setCell ⟨n0, 0, none⟩ v').setCell ⟨n0 + 1, 0, none⟩ u).ownsRow M 22 1 v' (pre.length + 1) (pre.map Item.v ++ [x.v]) := r3.kept (grownBy_setCell' _ (n0 + 1) u) (.inr (b1'.not_row (by decide) r3).symm)
  have hM := hI.size
  have ro : ∀ g, (Value.slice a pre.length c).ownBlock = some g → M ≤ g := fun g hg => (World.ownsRow.lt hrow g hg).1
  have kp : Kp (fun g => g = n0 ∨ g = n0 + 1 ∨ (Value.slice a pre.length c).ownBlock = some g) W ((w2.setCell ⟨n0, 0, none⟩ v').setCell ⟨n0 + 1, 0, none⟩ u) := by
    refine Kp.trans (Kp.trans (Kp.trans (Kp.of_below (below_alloc W tmp) _) (Kp.of_grown hgrow) (fun g _ h => .inr (.inr h))) (Kp.of_grown (grownBy_setCell' w2 n0 v')) (fun g _ h => .inl (by injection h with h; exact h.symm))) (Kp.of_grown (grownBy_setCell' _ (n0 + 1) u)) (fun g _ h => .inr (.inl (by injection h with h; exact h.symm)))
  refine ⟨b0, b1', ?_, ⟨kp.size, fun k hk => ?_⟩, ?_⟩
  · refine (((KeepsOthers.alloc W tmp).trans (KeepsOthers.of_grownBy hgrow fun j o ej hj => ?_)).trans (KeepsOthers.setCell _ _ _)).trans (KeepsOthers.setCell _ _ _)
    rcases (hrow.alloc tmp).2 with ⟨e, _⟩ | ⟨g, cap, cur, e, _, hgb, _⟩
    · rw [e] at ej; simp [Value.ownBlock] at ej
    · rw [e] at ej
      obtain rfl : g = j := by simpa [Value.ownBlock] using ej
      rw [hgb] at hj; cases hj; rfl
  · obtain ⟨h1, h2, h3⟩ := hK k hk
    exact kp.block k (by omega) (fun h => by
      rcases h with h | h | h
      · exact h2 h
      · exact h3 h
      · have := ro k h; omega)
  · have keep : ∀ {y : Item}, RowB 5 M W y.v y.p → RowB 5 M ((w2.setCell ⟨n0, 0, none⟩ v').setCell ⟨n0 + 1, 0, none⟩ u) y.v y.p := fun {y} hy => RowV.kp hy kp (fun g hg h => by
      rcases h with h | h | h
      · have := hy.block_ge hg; omega
      · have := hy.block_ge hg; omega
      · have h' : RowV 22 M W (.slice a pre.length c) (pre.map Item.v) := by
          obtain ⟨q, hq⟩ := hI.row
          obtain ⟨c2, q1, q2⟩ := hq
          have e := (show W.heap[n0]? = _ from hv).symm.trans q1
          have : Value.slice a pre.length c = Value.slice q pre.length c2 := by simpa using e
          rw [this]; exact q2
        exact rows_ne hy h' (by decide) hg h)
    refine ⟨?_, ⟨some ⟨g', 0, none⟩, cap', ?_, ?_⟩, fun y hy => ?_, ?_, ?_, Nat.le_trans hM kp.size⟩
    · have e : u = .int .i64 ((endD ((pre ++ [x]).map Item.d) : Nat) : Int) := by
        rw [← hu, List.map_append, List.map_cons, List.map_nil, endD_snoc]
        simp [Item.d]
      rw [← e]
      exact b1'.set u
    · rw [List.length_append, List.length_singleton, hv']
      exact b0'.other (by omega) u
    · rw [List.length_append, List.length_singleton, hv', List.map_append, RowV, List.length_append, List.length_map]
      exact r4
    · rcases List.mem_append.1 hy with h | h
      · exact keep (hI.items y h)
      · simp at h; subst h; exact keep hP.row
    · rw [List.pairwise_append]
      refine ⟨hI.ap, List.pairwise_singleton _ _, fun y hy z hz => ?_⟩
      simp at hz; subst hz
      exact hP.apart y hy
    · refine hI.bel.trans ⟨kp.os, kp.tape, kp.output, kp.size, fun k hk => kp.block k (by have := hI.bel.size; omega) (fun h => ?_)⟩
      rcases h with h | h | h
      · omega
      · omega
      · have := ro k h; omega

/-- A row of rows of bytes, all in memory of the call's own, apart from one another. -/
structure RowsV (base : Nat) (w : World) (v : Value) (ps : List (List Nat)) : Prop where
  row : ∃ vs : List Value, RowV 22 base w v vs ∧ vs.length = ps.length ∧ (∀ x ∈ vs.zip ps, RowB 5 base w x.1 x.2) ∧ vs.Pairwise (fun a b => ∀ g, a.ownBlock = some g → b.ownBlock ≠ some g)
theorem RowsV.later {base : Nat} {w w' : World} {v : Value} {ps : List (List Nat)} (h : RowsV base w v ps) (hb : Below w.heap.size w w') : RowsV base w' v ps := by
  obtain ⟨vs, h1, h2, h3, h4⟩ := h.row
  exact ⟨vs, RowV.later h1 hb, h2, fun x hx => RowV.later (h3 x hx) hb, h4⟩
theorem rows_of {n0 M : Nat} {w W : World} {pre : List Item} {a : Option Addr} {c : Nat} (h : ScanI n0 M w pre W) (hr : RowV 22 M W (.slice a pre.length c) (pre.map Item.v)) : RowsV M W (.slice a pre.length c) (pre.map Item.p) := by
  refine ⟨pre.map Item.v, hr, by simp, fun x hx => ?_, ?_⟩
  · rw [List.zip_map', List.mem_map] at hx
    obtain ⟨y, hy, rfl⟩ := hx
    exact h.items y hy
  · rw [List.pairwise_map]
    exact h.ap

/-- The bytes from a place on, as the language slices them. -/
theorem RdB.from {w : World} {ao : Option Addr} {cap A : Nat} {bs : List Nat} (h : RdB w (.slice ao bs.length cap) bs) (hA : A ≤ bs.length) : RdB w (.slice (if A = cap then ao else ao.map (fun x => x.add A)) (bs.length - A) (cap - A)) (bs.drop A) := by
  obtain ⟨ao', cap', e, hcap, hnil⟩ := h.len
  injection e with e1 e2 e3
  subst e1 e3
  rw [List.length_map] at hcap
  have tail : ∀ ad : Option Addr, (A < bs.length → ad = ao.map (fun x => x.add A)) → (ad = none → cap - A = 0) → RdB w (.slice ad (bs.length - A) (cap - A)) (bs.drop A) := fun ad h1 h2 => by
    have r := Rd.tail (k := A) (ad := ad) h hA (fun g o e hk => by rw [h1 hk, e]; simp [Addr.add_lit]) h2
    rw [← List.map_drop] at r
    exact r
  by_cases hc : A = cap
  · rw [if_pos hc]
    exact tail ao (fun hk => by omega) (fun _ => by omega)
  · rw [if_neg hc]
    refine tail _ (fun _ => rfl) (fun e => ?_)
    cases ao with
    | none => have := hnil rfl; omega
    | some ad => cases e

theorem RowsV.kp {base : Nat} {w w' : World} {v : Value} {ps : List (List Nat)} {M : Nat → Prop} (h : RowsV base w v ps) (k : Kp M w w') (hm : ∀ g, M g → g < base) : RowsV base w' v ps := by
  obtain ⟨vs, h1, h2, h3, h4⟩ := h.row
  exact ⟨vs, RowV.kp h1 k (fun g hg hM => by have := h1.block_ge hg; have := hm g hM; omega), h2, fun x hx => RowV.kp (h3 x hx) k (fun g hg hM => by have := (h3 x hx).block_ge hg; have := hm g hM; omega), h4⟩
theorem RowsV.mono {base base' : Nat} {w : World} {v : Value} {ps : List (List Nat)} (h : RowsV base w v ps) (hb : base' ≤ base) : RowsV base' w v ps := by
  obtain ⟨vs, h1, h2, h3, h4⟩ := h.row
  exact ⟨vs, h1.mono hb, h2, fun x hx => (h3 x hx).mono hb, h4⟩
theorem RowsV.putObj {base l : Nat} {w : World} {v : Value} {ps : List (List Nat)} {o o' : Obj} (h : RowsV base w v ps) (hl : w.heap[l]? = some o) (ho : o.isCells = false) : RowsV base (w.putObj l o') v ps := by
  have hr : ∀ r, some l = some r → ∃ o : Obj, w.heap[r]? = some o ∧ o.isCells = false := fun r e => by cases e; exact ⟨o, hl, ho⟩
  obtain ⟨vs, h1, h2, h3, h4⟩ := h.row
  exact ⟨vs, h1.keptNC (grownBy_putObj' w l o') hr, h2, fun x hx => (h3 x hx).keptNC (grownBy_putObj' w l o') hr, h4⟩

/-- Scan's answer. -/
def ScanIs (bs : List Nat) (w : World) (e : Ending) (w' : World) : Prop := ∃ a c, e = .returned (.tuple #[.slice a (CrcM.scan bs).1.length c, .int .i64 (((CrcM.scan bs).2.1 : Nat) : Int), .int .i64 (((CrcM.scan bs).2.2 : Nat) : Int)]) ∧ RowsV w.heap.size w' (.slice a (CrcM.scan bs).1.length c) (CrcM.scan bs).1 ∧ Below w.heap.size w w'

theorem loadVar_plain {ty : TypeId} {d : TypeDesc} (hu : Tryd.prog.underlying ty = some d) (hd : (match d with | .struct _ | .array _ _ => true | _ => false) = false) {w : World} {a : Addr} {v : Value} (h : w.cell? a = some v) : (loadVar ty a).run Tryd.prog w = .ok v w := by
  unfold loadVar isAgg
  simp [Sem.run_bind, run_underlying hu, Result.andThen]
  cases d <;> simp_all [go_sem]
theorem results_cct {fn : Func} {p q u : Tmp} {ty1 ty2 : TypeId} (h : fn.results = #[.cell p ty1, .cell q ty2, .tmp u]) (tmps : Array Value) (w : World) {a b : Addr} {x y z : Value} (hz : tmps.getD u undef = z) (hp : tmps.getD p undef = .pointer (some a)) (hq : tmps.getD q undef = .pointer (some b))
    (hx : (loadVar ty1 a).run Tryd.prog w = .ok x w) (hy : (loadVar ty2 b).run Tryd.prog w = .ok y w) : (results fn tmps).run Tryd.prog w = .ok (.tuple #[x, y, z]) w := by
  subst hz
  have hp' : tmps[p]?.getD undef = .pointer (some a) := by simpa using hp
  have hq' : tmps[q]?.getD undef = .pointer (some b) := by simpa using hq
  simp [results, h, hp', hq', asAddr, hx, hy]

theorem scan_fin {n n0 M E : Nat} {w W Wf : World} {PS : List (List Nat)} {a : Option Addr} {c : Nat} (hK : W.heap[M]? = some (.deferred (some []))) (b0 : Boxed W n0 32 (.slice a PS.length c)) (b1 : Boxed W (n0 + 1) 3 (.int .i64 (E : Int)))
    (hr : RowsV M W (.slice a PS.length c) PS) (hb : Below n0 w W) (hM : n0 + 2 ≤ M) (_hw : n0 ≤ w.heap.size) (e : (((W.drewN n).setCell ⟨n0, 0, none⟩ (.slice a PS.length c)).setCell ⟨n0 + 1, 0, none⟩ (.int .i64 (E : Int))) = Wf) :
    Wf.heap[M]? = some (.deferred (some [])) ∧ (Wf.putObj M (.deferred none)).cell? ⟨n0, 0, none⟩ = some (.slice a PS.length c) ∧ (Wf.putObj M (.deferred none)).cell? ⟨n0 + 1, 0, none⟩ = some (.int .i64 (E : Int)) ∧ RowsV n0 (Wf.putObj M (.deferred none)) (.slice a PS.length c) PS ∧ Below n0 w (Wf.putObj M (.deferred none)) := by
  subst e
  have c0 : Boxed ((W.drewN n).setCell ⟨n0, 0, none⟩ (.slice a PS.length c)) n0 32 (.slice a PS.length c) := Boxed.set _ (show Boxed (W.drewN n) n0 32 (.slice a PS.length c) from b0)
  have c1 : Boxed ((W.drewN n).setCell ⟨n0, 0, none⟩ (.slice a PS.length c)) (n0 + 1) 3 (.int .i64 (E : Int)) := Boxed.other (show Boxed (W.drewN n) (n0 + 1) 3 (.int .i64 (E : Int)) from b1) (by omega) _
  have d0 := c0.other (show n0 ≠ n0 + 1 by omega) (.int .i64 (E : Int))
  have d1 := c1.set (.int .i64 (E : Int))
  have hk : (((W.drewN n).setCell ⟨n0, 0, none⟩ (.slice a PS.length c)).setCell ⟨n0 + 1, 0, none⟩ (.int .i64 (E : Int))).heap[M]? = some (.deferred (some [])) := ((KeepsOthers.setCell (W.drewN n) ⟨n0, 0, none⟩ (.slice a PS.length c)).trans (KeepsOthers.setCell _ _ _)).same M _ hK rfl
  have kp : Kp (fun g => g = n0 ∨ g = n0 + 1) W (((W.drewN n).setCell ⟨n0, 0, none⟩ (.slice a PS.length c)).setCell ⟨n0 + 1, 0, none⟩ (.int .i64 (E : Int))) :=
    Kp.trans (Kp.trans ((Kp.refl _ W).drewN n) (Kp.of_grown (grownBy_setCell' _ n0 _)) (fun g _ h => .inl (by injection h with h; exact h.symm))) (Kp.of_grown (grownBy_setCell' _ (n0 + 1) _)) (fun g _ h => .inr (by injection h with h; exact h.symm))
  have hr1 := RowsV.kp hr kp (fun g hg => by omega)
  have nb : ∀ {Wf : World} {b : Nat} {t : TypeId} {u : Value}, Wf.heap[M]? = some (.deferred (some [])) → Boxed Wf b t u → (Wf.putObj M (.deferred none)).cell? ⟨b, 0, none⟩ = some u := fun hk hb => Boxed.cell (hb.kept (grownBy_putObj' _ M (.deferred none)) (fun e => by
    injection e with e
    subst e
    rw [show _ = _ from hb] at hk
    cases hk))
  refine ⟨hk, nb hk d0, nb hk d1, (hr1.putObj hk rfl).mono (by omega), ?_⟩
  refine hb.trans ⟨kp.os, kp.tape, kp.output, ?_, fun k hk' => ?_⟩
  · exact Nat.le_trans kp.size (by simp)
  · rw [World.putObj_heap_other (by omega)]
    exact kp.block k (by have := hb.size; omega) (fun h => by omega)

end Go.Proofs.YtcmfehabcklbpaaDoor
