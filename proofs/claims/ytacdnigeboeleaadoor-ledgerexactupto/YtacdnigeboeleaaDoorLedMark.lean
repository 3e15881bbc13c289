/-
  Ours: the statements' helpers over entries: mark, marked, turned; what is written in place.
-/
import Derived.Test.YtacdnigeboeleaaDoorLedRev
import Derived.Deep.RegionHeld3
import Derived.Deep.Cut
namespace Go.Proofs.YtacdnigeboeleaaDoor
open Go.RowKit LedM

namespace LedM
def mkE (k : Int) : Ent := ⟨-50 - k, 77, -9⟩
def halfE (e : Ent) : Ent := ⟨e.c, e.d, wrap64 (e.a.tdiv 2)⟩
end LedM

set_option maxHeartbeats 1000000 in
theorem mark_at (k : Int) (w : World) (h0 : 0 ≤ k) (h1 : k ≤ 100) : Calls Tryd.prog 14 #[.int .i64 k] w fun e w' => e = .returned (.agg (entL (mkE k)).toArray) ∧ Below w.heap.size w w' := by
  have NB : Hid (Blk w.heap.size 41 (entL zE) (w.alloc (.cells #[.int .i64 0, .int .i64 0, .int .i64 0] 41))) := Blk.new 41 (entL zE) w
  have BB : Hid (Below w.heap.size w (w.alloc (.cells #[.int .i64 0, .int .i64 0, .int .i64 0] 41))) := below_alloc w _
  have g0 : wrap64 (-50 - k) = -50 - k := by unfold wrap64; omega
  go_enter Tryd.func14, Tryd.ntmps14
  go_wp2_with (refine step_store rfl 41 _ _ rfl w.heap.size 0 41 (entL zE) (entL (mkE k)) rfl rfl NB.out (Nat.le_refl _) (infoE _) (oneE _) ?_; intro w2 nb2 g2)
  refine ret_blk rfl rfl w.heap.size 41 (entL (mkE k)) _ rfl nb2 Tryd.underlying41 rfl (infoE _) ?_
  exact ⟨rfl, below_row BB.out g2 (Nat.le_refl _)⟩

theorem RdE.two (w : World) (x y : Ent) : RdE (w.alloc (.cells (entL x ++ entL y).toArray 41)) (.slice (some ⟨w.heap.size, 0, none⟩) 2 2) [x, y] := by
  have hb := Blk.new 41 (entL x ++ entL y) w
  refine ⟨_, _, rfl, Nat.le_refl _, (fun h => by cases h), fun i hi => ⟨_, _, rfl, by simp, ?_⟩⟩
  have : i = 0 ∨ i = 1 := by simp at hi; omega
  rcases this with rfl | rfl
  · exact hb.range 0 3
  · exact hb.range 3 3

set_option maxHeartbeats 1000000 in
theorem marked_at (es : List Ent) (v : Value) (w : World) (hl : es.length ≤ 100000000) (h : RdE w v es) : Calls Tryd.prog 11 #[v] w fun e w' => ∃ v', e = .returned v' ∧ RowE w.heap.size w' v' (es ++ [mkE 1, mkE 2]) ∧ Below w.heap.size w w' := by
  have RD : Hid (RdE w v es) := h
  have M1 : Hid (∀ w', Calls Tryd.prog 14 #[.int .i64 1] w' fun e w2 => e = .returned (.agg (entL (mkE 1)).toArray) ∧ Below w'.heap.size w' w2) := fun w' => mark_at 1 w' (by omega) (by omega)
  have M2 : Hid (∀ w', Calls Tryd.prog 14 #[.int .i64 2] w' fun e w2 => e = .returned (.agg (entL (mkE 2)).toArray) ∧ Below w'.heap.size w' w2) := fun w' => mark_at 2 w' (by omega) (by omega)
  have NL : Hid (([] : List Ent).length + es.length ≤ 1000000000000 ∧ es.length + [mkE 1, mkE 2].length ≤ 1000000000000) := by show _ ∧ _; simp; omega
  clear h hl
  go_enter Tryd.func11, Tryd.ntmps11
  go_wp2_with (at_builtin; refine wpList_catE rfl (.tmp 4) (.tmp 5) rfl w.heap.size (.slice none 0 0) v [] es rfl (RowE.nil _ _) (Nat.le_refl _) rfl RD.out NL.out.1 ?_; intro va w1 r1 g1; have B1 : Hid (Below w.heap.size w w1) := below_none g1; have R1 : Hid (RowE w.heap.size w1 va es) := r1; clear r1 g1)
  refine (M1.out _).mono ?_
  rintro e w2 ⟨rfl, b2⟩
  have B2 : Hid (Below w.heap.size w w2) := below_trans B1.out b2
  have R2 : Hid (RowE w.heap.size w2 va es) := R1.out.later b2
  clear B1 R1 b2
  go_wp2_with fail
  refine (M2.out _).mono ?_
  rintro e w3 ⟨rfl, b3⟩
  have B3 : Hid (Below w.heap.size w (w3.alloc (.cells (entL (mkE 1) ++ entL (mkE 2)).toArray 41)) ∧ w.heap.size ≤ (w3.alloc (.cells (entL (mkE 1) ++ entL (mkE 2)).toArray 41)).heap.size) := by
    have := below_trans B2.out b3
    have t := this.alloc this.size (.cells (entL (mkE 1) ++ entL (mkE 2)).toArray 41)
    exact ⟨t, t.size⟩
  have R3 : Hid (RowE w.heap.size (w3.alloc (.cells (entL (mkE 1) ++ entL (mkE 2)).toArray 41)) va es) := (R2.out.later b3).later (below_alloc _ _)
  have O3 : Hid (RdE (w3.alloc (.cells (entL (mkE 1) ++ entL (mkE 2)).toArray 41)) (.slice (some ⟨w3.heap.size, 0, none⟩) 2 2) [mkE 1, mkE 2]) := RdE.two w3 _ _
  clear B2 R2 b3
  have s1 : (entL (mkE 1)).toArray.size = 3 := rfl
  have s2 : (entL (mkE 2)).toArray.size = 3 := rfl
  go_wp2_with (at_builtin; refine wpList_catE rfl (.tmp 7) (.tmp 10) rfl w.heap.size va (.slice (some ⟨w3.heap.size, 0, none⟩) 2 2) es [mkE 1, mkE 2] rfl R3.out B3.out.2 rfl O3.out NL.out.2 ?_; intro vb w4 r4 g4)
  go_ret
  exact ⟨_, rfl, r4, B3.out.1.grown g4 B3.out.2 (fun g hg => R3.out.ge hg)⟩

theorem grown_more {w a b : World} {g : Nat} {row : Option Nat} (h : w.grownBy a (some g)) (k : a.grownBy b row) (hr : ∀ r, row = some r → w.heap.size ≤ r ∨ r = g) : w.grownBy b (some g) :=
  ⟨k.os.trans h.os, k.tape.trans h.tape, k.output.trans h.output, Nat.le_trans h.size k.size, fun i hi hn => (k.block i (Nat.lt_of_lt_of_le hi h.size) (fun e => by
    rcases hr i e.symm with h1 | h1
    · omega
    · exact hn (by rw [h1]))).trans (h.block i hi hn)⟩
theorem RowE.cur {base g n cap : Nat} {w : World} {es : List Ent} (h : w.ownsRow base 41 3 (.slice (some ⟨g, 0, none⟩) n cap) es.length (enL es)) : n = es.length ∧ base ≤ g ∧ ∃ cur : List Value, Blk g 41 cur w ∧ cur.length = cap * 3 ∧ cur.take (es.length * 3) = enL es ∧ es.length ≤ cap ∧ cap ≤ maxLen := by
  rcases h.2 with ⟨hv, _⟩ | ⟨g', cap', cur, hv, hb, hg, hn, hm, hcs, htk⟩
  · cases hv
  · injection hv with e1 e2 e3
    injection e1 with e1
    injection e1 with e1 _ _
    subst e1 e3
    exact ⟨e2, hb, cur.toList, by unfold Blk; rw [hg], by rw [Array.length_toList]; exact hcs, htk, hn, hm⟩
theorem RowE.ofcur {base g cap : Nat} {w : World} {es : List Ent} {cur : List Value} (h : Blk g 41 cur w) (hb : base ≤ g) (h1 : cur.length = cap * 3) (h2 : cur.take (es.length * 3) = enL es) (h3 : es.length ≤ cap) (h4 : cap ≤ maxLen) : RowE base w (.slice (some ⟨g, 0, none⟩) es.length cap) es :=
  ⟨enL_len es, .inr ⟨g, cap, cur.toArray, rfl, hb, h, h3, h4, by simpa using h1, by simpa using h2⟩⟩
theorem cur_set {cur : List Value} {es : List Ent} {k : Nat} (x : Ent) (h1 : es.length * 3 ≤ cur.length) (h2 : cur.take (es.length * 3) = enL es) (hk : k < es.length) :
    (cur.take (k * 3) ++ entL x ++ cur.drop (k * 3 + (entL x).length)).length = cur.length ∧ (cur.take (k * 3) ++ entL x ++ cur.drop (k * 3 + (entL x).length)).take (es.length * 3) = enL (es.set k x) := by
  have el : (entL x).length = 3 := rfl
  refine ⟨by simp [el]; omega, ?_⟩
  have a1 : List.take (es.length * 3) (List.take (k * 3) cur) = List.take (k * 3) cur := by rw [List.take_take, Nat.min_eq_right (by omega)]
  have a2 : List.take (k * 3) (List.take (es.length * 3) cur) = List.take (k * 3) cur := by rw [List.take_take, Nat.min_eq_left (by omega)]
  have a3 : (List.take (k * 3) cur).length = k * 3 := by rw [List.length_take]; omega
  rw [← enL_set es k x hk, ← h2, el, List.take_append, List.take_append, a1, a2, List.length_append, a3, el, List.take_of_length_le (l := entL x) (by rw [el]; omega), List.drop_take]
theorem eN_set {es : List Ent} {k : Nat} (x : Ent) (h : k < es.length) : eN (es.set k x) k = x := by simp [eN, List.getD_eq_getElem?_getD, h]
theorem half_set {es ms : List Ent} {k : Nat} (hk : k < es.length) : ((es.map halfE).take k ++ es.drop k ++ ms).set k (halfE (eN es k)) = (es.map halfE).take (k + 1) ++ es.drop (k + 1) ++ ms := by
  rw [drop_eN hk]
  rw [List.append_assoc, List.set_append_right _ _ (by simp; exact Nat.min_le_left _ _), List.length_take, List.length_map, Nat.min_eq_left (by omega), Nat.sub_self]
  simp only [List.cons_append, List.set_cons_zero]
  rw [List.take_add_one, List.getElem?_map, List.getElem?_eq_getElem hk]
  simp [eN_at hk]
theorem half_at {es ms : List Ent} {k : Nat} (hk : k < es.length) : eN ((es.map halfE).take k ++ es.drop k ++ ms) k = eN es k := by
  have e : ((es.map halfE).take k ++ es.drop k ++ ms)[k]? = some (eN es k) := by
    rw [drop_eN hk, List.append_assoc, List.getElem?_append_right (by simp; exact Nat.min_le_left _ _)]
    simp [Nat.min_eq_left (Nat.le_of_lt hk)]
  simp [eN, List.getD_eq_getElem?_getD] at e ⊢
  rw [e]; rfl

set_option maxRecDepth 20000 in
set_option maxHeartbeats 2000000 in
theorem turned_at (es ms : List Ent) (base g cap : Nat) (w : World) (hl : es.length ≤ 100000000) (h : RowE base w (.slice (some ⟨g, 0, none⟩) (es ++ ms).length cap) (es ++ ms)) :
    Calls Tryd.prog 16 #[.slice (some ⟨g, 0, none⟩) es.length cap] w fun e w' => ∃ v', e = .returned v' ∧ RowE w.heap.size w' v' (es.map halfE) ∧ RowE base w' (.slice (some ⟨g, 0, none⟩) (es ++ ms).length cap) (es.map halfE ++ ms) ∧ w.grownBy w' (some g) := by
  have hg : g < w.heap.size := h.lt rfl
  obtain ⟨L, hL⟩ : ∃ L, es.length = L := ⟨_, rfl⟩
  have HL : Hid (es.length = L) := hL
  obtain ⟨_, hb0, _, _, _, _, hc0, _⟩ := RowE.cur h
  have hcap : L ≤ cap := by rw [List.length_append] at hc0; omega
  obtain ⟨N, hN⟩ : ∃ N, (es ++ ms).length = N := ⟨_, rfl⟩
  have HN : Hid (∀ k, k ≤ L → ((es.map halfE).take k ++ es.drop k ++ ms).length = N) := fun k hk => by
    rw [← hN]; simp; omega
  have R0 : Hid (RowE base w (.slice (some ⟨g, 0, none⟩) N cap) (es ++ ms)) := by rw [← hN]; exact h
  have ZE : Hid ((es.map halfE).take 0 ++ es.drop 0 ++ ms = es ++ ms ∧ (es.map halfE).take L ++ es.drop L ++ ms = es.map halfE ++ ms ∧ (es.map halfE).take L = es.map halfE) := by
    show _ ∧ _ ∧ _
    have t : (es.map halfE).take L = es.map halfE := List.take_of_length_le (by simp; omega)
    refine ⟨by simp, by rw [t, List.drop_eq_nil_of_le (by omega)]; simp, t⟩
  have HS : Hid (∀ k, k < L → ((es.map halfE).take k ++ es.drop k ++ ms).set k (halfE (eN es k)) = (es.map halfE).take (k + 1) ++ es.drop (k + 1) ++ ms ∧ eN ((es.map halfE).take k ++ es.drop k ++ ms) k = eN es k ∧ (es.map halfE).take (k + 1) = (es.map halfE).take k ++ [halfE (eN es k)]) := fun k hk => by
    refine ⟨half_set (by omega), half_at (by omega), ?_⟩
    rw [List.take_add_one, List.getElem?_map, List.getElem?_eq_getElem (by omega)]
    simp [eN_at (show k < es.length by omega)]
  rw [hN, hL]
  rw [hL] at hl
  clear h hL hN hc0
  go_enter Tryd.func16, Tryd.ntmps16
  go_wp2_with fail
  go_loopw [3, 4, 5] (fun v vk _ wr => ∃ k : Nat, vk = .int .i64 (k : Int) ∧ k ≤ L ∧ RowE w.heap.size wr v ((es.map halfE).take k) ∧ RowE base wr (.slice (some ⟨g, 0, none⟩) N cap) ((es.map halfE).take k ++ es.drop k ++ ms) ∧ w.grownBy wr (some g)) (fun _ vk _ _ => L - (intOf vk).toNat)
  case atStart => exact ⟨0, rfl, by omega, by rw [List.take_zero]; exact RowE.nil _ _, by rw [ZE.out.1]; exact R0.out, grownBy_refl _ _⟩
  case round =>
    clear R0
    obtain ⟨k, rfl, hk, rn, rf, gw⟩ := hrel
    have ln := HN.out k hk
    by_cases hlt : (k : Int) < (L : Int)
    · obtain ⟨hs1, hs2, hs3⟩ := HS.out k (by omega)
      obtain ⟨_, hbg, cur, nb, c1, c2, c3, c4⟩ := RowE.cur rf
      have kN : k < ((es.map halfE).take k ++ es.drop k ++ ms).length := by have := HL.out; rw [List.length_append, List.length_append, List.length_take, List.length_map, List.length_drop]; omega
      obtain ⟨s1, s2⟩ := cur_set (k := k) (halfE (eN es k)) (by rw [c1]; omega) c2 kN
      have RG : Hid (wr.rangeAt g (k * 3) (entL (eN es k))) := by
        obtain ⟨ao, cap', e, _, _, H⟩ := rf.rd
        injection e with e1 e2 e3
        subst e1
        obtain ⟨g', o', e', _, r⟩ := H k kN
        cases e'
        rw [hs2, Nat.zero_add] at r
        exact r
      have lt : g < wr.heap.size := nb.lt
      have gws := gw.size
      have NE : Hid (Blk wr.heap.size 41 (entL zE) (wr.alloc (.cells #[.int .i64 0, .int .i64 0, .int .i64 0] 41))) := Blk.new 41 (entL zE) wr
      have NB : Hid (Blk g 41 cur (wr.alloc (.cells #[.int .i64 0, .int .i64 0, .int .i64 0] 41))) := nb.old _
      have RN : Hid (RowE w.heap.size wr u3 ((es.map halfE).take k)) := rn
      have GW : Hid (w.grownBy wr (some g)) := gw
      have FT : Hid (k * 3 + 3 ≤ cur.length) := by show _ ≤ _; rw [c1]; omega
      have MK : Hid (∀ w4, Blk g 41 (cur.take (k * 3) ++ entL (halfE (eN es k)) ++ cur.drop (k * 3 + (entL (halfE (eN es k))).length)) w4 → RowE base w4 (.slice (some ⟨g, 0, none⟩) N cap) ((es.map halfE).take (k + 1) ++ es.drop (k + 1) ++ ms) ∧ w4.rangeAt g (k * 3) (entL (halfE (eN es k)))) := fun w4 hb4 => by
        have ls : (((es.map halfE).take k ++ es.drop k ++ ms).set k (halfE (eN es k))).length = N := by rw [List.length_set]; exact ln
        have r4 := RowE.ofcur (base := base) (cap := cap) (es := ((es.map halfE).take k ++ es.drop k ++ ms).set k (halfE (eN es k))) hb4 hbg (s1.trans c1) (by rw [List.length_set]; exact s2) (by rw [List.length_set]; exact c3) c4
        rw [ls] at r4
        refine ⟨by rw [← hs1]; exact r4, ?_⟩
        obtain ⟨ao, cap', e, _, _, H⟩ := r4.rd
        injection e with e1 e2 e3
        subst e1
        obtain ⟨g', o', e', _, r⟩ := H k (by rw [List.length_set]; exact kN)
        cases e'
        rw [eN_set _ kN, Nat.zero_add] at r
        exact r
      have HS3 : Hid ((es.map halfE).take (k + 1) = (es.map halfE).take k ++ [halfE (eN es k)]) := hs3
      have LN : Hid (((es.map halfE).take k).length + [halfE (eN es k)].length ≤ 1000000000000) := by show _ ≤ _; simp; omega
      have hgw : g < w.heap.size := hg
      have elx : ∀ e : Ent, (entL e).length = 3 := fun _ => rfl
      clear rf rn gw nb c1 c2 c3 c4 s1 s2 hs1 hs2 hs3 HS HN ln kN
      generalize eN es k = x at *
      obtain ⟨xd, xc, xa⟩ := x
      go_wp2_with (first
        | (refine step_load rfl 41 _ rfl g (k * 3) rfl (entL ⟨xd, xc, xa⟩) _ RG.out Tryd.underlying41 rfl (infoE _) ?_; clear RG)
        | (refine step_store rfl 41 _ _ rfl wr.heap.size 0 41 (entL zE) (entL ⟨xd, xc, xa⟩) rfl rfl NE.out (Nat.le_refl _) (infoE _) (oneE _) ?_; intro w3 nb3 g3; have n3 : Blk wr.heap.size 41 (entL ⟨xd, xc, xa⟩) w3 := nb3; have c0 := n3.cell 0 _ rfl; have c1 := n3.cell 1 _ rfl; have c2 := n3.cell 2 _ rfl; have N3 : Hid (Blk g 41 cur w3) := NB.out.grown g3 (by simp; omega); have G3 : Hid ((wr.alloc (.cells #[.int .i64 0, .int .i64 0, .int .i64 0] 41)).grownBy w3 (some wr.heap.size)) := g3; clear nb3 n3 g3 NE NB)
        | (refine step_store rfl 41 _ _ rfl g (k * 3) 41 cur (entL (halfE ⟨xd, xc, xa⟩)) rfl rfl N3.out FT.out (infoE _) (oneE _) ?_; intro w4 nb4 g4; have M4 : Hid (RowE base w4 (.slice (some ⟨g, 0, none⟩) N cap) ((es.map halfE).take (k + 1) ++ es.drop (k + 1) ++ ms) ∧ w4.rangeAt g (k * 3) (entL (halfE ⟨xd, xc, xa⟩))) := MK.out w4 nb4; have G4 : Hid (w3.grownBy w4 (some g)) := g4; have RN4 : Hid (RowE w.heap.size (w4.alloc (.cells (entL (halfE ⟨xd, xc, xa⟩)).toArray 41)) u3 ((es.map halfE).take k) ∧ w.heap.size ≤ (w4.alloc (.cells (entL (halfE ⟨xd, xc, xa⟩)).toArray 41)).heap.size) := ⟨(((RN.out.later (below_alloc wr _)).kept G3.out (fun g' hg' e => by cases e; have := RN.out.lt hg'; omega)).kept G4.out (fun g' hg' e => by cases e; have := RN.out.ge hg'; omega)).later (below_alloc w4 _), by have := G3.out.size; have := G4.out.size; simp at *; omega⟩; clear nb4 g4 c0 c1 c2 N3)
        | (refine step_load rfl 41 _ rfl g (k * 3) rfl (entL (halfE ⟨xd, xc, xa⟩)) _ M4.out.2 Tryd.underlying41 rfl (infoE _) ?_)
        | (at_builtin; refine wpList_catE rfl (.tmp 27) (.tmp 32) rfl w.heap.size u3 (.slice (some ⟨w4.heap.size, 0, none⟩) 1 1) ((es.map halfE).take k) [halfE ⟨xd, xc, xa⟩] rfl RN4.out.1 RN4.out.2 rfl (RdE.one w4 _) LN.out ?_; intro v5 w5 r5 g5))
      go_roundw
      case rel =>
        refine ⟨k + 1, by go_num, by omega, by rw [HS3.out]; exact r5, ?_, ?_⟩
        · refine (M4.out.1.later (below_alloc _ _)).kept g5 (fun g' hg' e => ?_)
          have h1 := RN.out.ge e
          have h2 : g = g' := Option.some.inj hg'
          omega
        · refine grown_more ?_ g5 (fun r e => .inl (RN.out.ge e))
          refine grown_more (row := none) ?_ (grownBy_below (below_alloc w4 _) none) (fun r e => by cases e)
          refine grown_more ?_ G4.out (fun r e => by cases e; exact .inr rfl)
          refine grown_more ?_ G3.out (fun r e => by cases e; exact .inl gws)
          exact grown_more (row := none) GW.out (grownBy_below (below_alloc wr _) none) (fun r e => by cases e)
      case measure => simp [intOf]; omega
    · obtain rfl : k = L := by omega
      rw [ZE.out.2.1] at rf
      rw [ZE.out.2.2] at rn
      have RR : Hid (RowE w.heap.size wr u3 (es.map halfE) ∧ RowE base wr (.slice (some ⟨g, 0, none⟩) N cap) (es.map halfE ++ ms) ∧ w.grownBy wr (some g)) := ⟨rn, rf, gw⟩
      clear rn rf gw
      go_wp2_with fail
      go_ret
      exact ⟨_, rfl, RR.out⟩
end Go.Proofs.YtacdnigeboeleaaDoor
