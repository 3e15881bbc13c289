/-
  Ours: the statement's anew.
-/
import Derived.Test.YtekejcpgoijoaabAgAsk
import Derived.Test.YtekejcpgoijoaabAgAlone
namespace Go.Proofs.Ytekejcpgoijoaab
open Go.RowKit LedM AgM

namespace AgM
/-- A row written over: half the other amount, the mark turned. -/
def trn (x : Ins) : Ins := ⟨x.d, x.p.tdiv 2, x.i.tdiv 2, !x.m⟩
theorem tdiv_ok {x : Int} (h : i64 x) : i64 (x.tdiv 2) := by
  unfold i64 at *
  by_cases h0 : 0 ≤ x
  · rw [Int.tdiv_eq_ediv_of_nonneg h0]; omega
  · obtain ⟨y, rfl⟩ : ∃ y, x = -y := ⟨-x, by omega⟩
    rw [Int.neg_tdiv, Int.tdiv_eq_ediv_of_nonneg (by omega)]; omega
theorem trn_ok {l : List Ins} (h : ∀ x ∈ l, InsOk x) : ∀ x ∈ l.map trn, InsOk x := fun x hx => by
  obtain ⟨y, hy, rfl⟩ := List.mem_map.1 hx
  have := h y hy
  exact ⟨this.1, tdiv_ok this.2.2, tdiv_ok this.2.1⟩
theorem trn_set {l : List Ins} {k : Nat} (hk : k < l.length) : ((l.take k).map trn ++ l.drop k).set k (trn (iN l k)) = (l.take (k + 1)).map trn ++ l.drop (k + 1) := by
  rw [List.set_append_right _ _ (by simp; omega)]
  simp only [List.length_map, List.length_take, Nat.min_eq_left (Nat.le_of_lt hk), Nat.sub_self]
  rw [drop_iN hk, List.set_cons_zero, take_iN hk, List.map_append]
  simp
theorem set4 : ∀ (n : Nat) (zs : List Value) (a b c d : Value), n + 4 ≤ zs.length → (((zs.set n a).set (n + 1) b).set (n + 2) c).set (n + 3) d = zs.take n ++ [a, b, c, d] ++ zs.drop (n + 4)
  | 0, _ :: _ :: _ :: _ :: r, a, b, c, d, _ => by simp
  | n + 1, z :: zs, a, b, c, d, h => by
    have := set4 n zs a b c d (by simp at h; omega)
    simp only [List.set_cons_succ, show n + 1 + 1 = (n + 1) + 1 from rfl, show n + 1 + 2 = (n + 2) + 1 from rfl, show n + 1 + 3 = (n + 3) + 1 from rfl, show n + 1 + 4 = (n + 4) + 1 from rfl, List.take_succ_cons, List.drop_succ_cons, List.cons_append, this]
  | 0, [], _, _, _, _, h => by simp at h
  | 0, [_], _, _, _, _, h => by simp at h
  | 0, [_, _], _, _, _, _, h => by simp at h
  | 0, [_, _, _], _, _, _, _, h => by simp at h
  | n + 1, [], _, _, _, _, h => by simp at h
end AgM

set_option maxRecDepth 20000 in
set_option maxHeartbeats 4000000 in
theorem anew_at (l : List Ins) (A R t k : Int) (rows : List Int) (v vr : Value) (w : World) (h4 : l.length ≤ 400) (h4r : rows.length ≤ 400) (ok : ∀ x ∈ l, InsOk x) (hA : i64 A) (ht : i64 t) (h : RdP w v l) (hq : Reads w vr rows) :
    Calls Try.prog 16 #[v, .agg #[.int .i64 A, .int .i64 R], .int .i64 t, .int .i64 k, vr] w fun e w' => e = .returned (.bool true) ∧ Below w.heap.size w w' := by
  have BC : Hid (Below w.heap.size w (w.alloc (.cells #[.int .i64 A, .int .i64 R] 24)) ∧ Blk w.heap.size 24 [.int .i64 A, .int .i64 R] (w.alloc (.cells #[.int .i64 A, .int .i64 R] 24))) := ⟨below_alloc w _, Blk.new 24 [.int .i64 A, .int .i64 R] w⟩
  have CP : Hid (∀ w', Below w.heap.size w w' → Calls Try.prog 6 #[v] w' fun e w2 => ∃ v', e = .returned v' ∧ RowP w'.heap.size w2 v' l ∧ Below w'.heap.size w' w2) := fun w' hb => copied_at l v w' (by omega) (h.later hb)
  have AS : Hid (∀ l' v' w', (l' = l ∨ l' = l.map trn) → Below w.heap.size w w' → RdP w' v' l' → Calls Try.prog 27 #[v', .agg #[.int .i64 A, .int .i64 R], .int .i64 t, .int .i64 k, vr] w' fun e w2 => e = .returned (.bool true) ∧ Below w'.heap.size w' w2) := fun l' v' w' hl hb hr => by
    rcases hl with rfl | rfl
    · exact asked_at _ A R t k rows v' vr w' h4 h4r ok hA ht hr (hq.later hb)
    · exact asked_at _ A R t k rows v' vr w' (by simpa using h4) h4r (trn_ok ok) hA ht hr (hq.later hb)
  have OKI : Hid (∀ j, InsOk (iN l j)) := fun j => iN_ok ok j
  have TS : Hid (∀ j, j < l.length → ((l.take j).map trn ++ l.drop j).set j (trn (iN l j)) = (l.take (j + 1)).map trn ++ l.drop (j + 1)) := fun j hj => trn_set hj
  have TE : Hid ((l.take l.length).map trn ++ l.drop l.length = l.map trn) := by show _ = _; simp
  have TL : Hid (∀ j, ((l.take j).map trn ++ l.drop j).length = l.length) := fun j => by simp; omega
  have h' := h
  obtain ⟨ao, cap, rfl, -, -, -⟩ := h
  have CE : Hid (∀ w', Below w.heap.size w w' → ∀ i, i < l.length → ∃ g o, ao = some ⟨g, o, none⟩ ∧ w'.rangeAt g (o + i * 4) (insL (iN l i))) := h'.cells
  have LTW : Hid (∀ i, i < l.length → ∀ g o, ao = some ⟨g, o, none⟩ → g < w.heap.size) := fun i hi g o e => by
    obtain ⟨ao', cap', e', _, _, H⟩ := h'
    injection e' with e1 _ _
    subst e1
    obtain ⟨g', o', e2, lt, _⟩ := H i hi
    rw [e] at e2; cases e2; exact lt
  obtain ⟨L, hL⟩ : ∃ L, l.length = L := ⟨_, rfl⟩
  have HL : Hid (l.length = L) := hL
  rw [hL] at h4 CP TS TE TL CE LTW ⊢
  clear h' hL ok hq
  go_enter Try.func16, Try.ntmps16
  go_wp2_with fail
  refine (CP.out _ BC.out.1).mono ?_
  rintro e w2 ⟨v2, rfl, r2, b2⟩
  obtain ⟨a2, c2, e2⟩ := r2.shape
  rw [HL.out] at e2
  subst e2
  have B2 : Hid (RowP w.heap.size w2 (.slice a2 L c2) l ∧ Below w.heap.size w w2 ∧ Blk w.heap.size 24 [.int .i64 A, .int .i64 R] w2 ∧ ∀ g, (Value.slice a2 L c2).ownBlock = some g → w.heap.size < g) := ⟨r2.mono (by simp), below_trans BC.out.1 b2, BC.out.2.below b2, fun g hg => by have := r2.ge hg; simp at this; omega⟩
  clear r2 b2 BC CP
  have p0 := B2.out.2.2.1.cell 0 _ rfl
  have p1 := B2.out.2.2.1.cell 1 _ rfl
  go_wp2_with fail
  refine (AS.out l _ _ (.inl rfl) B2.out.2.1 B2.out.1.rd).mono ?_
  rintro e w3 ⟨rfl, b3⟩
  have B3 : Hid (RowP w.heap.size w3 (.slice a2 L c2) l ∧ Below w.heap.size w w3 ∧ Blk w.heap.size 24 [.int .i64 A, .int .i64 R] w3) := ⟨B2.out.1.later b3, below_trans B2.out.2.1 b3, B2.out.2.2.1.below b3⟩
  have GT : Hid (∀ g, (Value.slice a2 L c2).ownBlock = some g → w.heap.size < g) := B2.out.2.2.2
  clear b3 B2 p0 p1
  go_wp2_with fail
  go_loopw [12] (fun vk wr => ∃ (j : Nat) (ys : List Ins), vk = .int .i64 (j : Int) ∧ j ≤ L ∧ Hid (ys = (l.take j).map trn ++ l.drop j) ∧ Hid (RowP w.heap.size wr (.slice a2 L c2) ys ∧ Below w.heap.size w wr ∧ Blk w.heap.size 24 [.int .i64 A, .int .i64 R] wr)) (fun vk _ => L - (intOf vk).toNat)
  case atStart => exact ⟨0, l, rfl, by omega, by show _ = _; simp, B3.out⟩
  case round =>
    obtain ⟨j, ys, rfl, hj, YE, B⟩ := hrel
    by_cases hlt : (j : Int) < (L : Int)
    · obtain ⟨g, o, rfl, rg⟩ := CE.out wr B.out.2.1 j (by omega)
      have d0 : wr.cell? ⟨g, o + j * 4, none⟩ = some (.int .i64 (iN l j).d) := rg 0 _ rfl
      have d1 : wr.cell? ⟨g, o + j * 4 + 1, none⟩ = some (.int .i64 (iN l j).i) := rg 1 _ rfl
      have d2 : wr.cell? ⟨g, o + j * 4 + 2, none⟩ = some (.int .i64 (iN l j).p) := rg 2 _ rfl
      have d3 : wr.cell? ⟨g, o + j * 4 + 3, none⟩ = some (.bool (iN l j).m) := rg 3 _ rfl
      have glt := LTW.out j (by omega) g o rfl
      obtain ⟨g2, cap2, zs, ev, hg2, nb, zl, put⟩ := RowP.put B.out.1 (k := j) (by rw [YE.out, TL.out]; omega)
      have gg := GT.out g2 (by rw [ev]; rfl)
      injection ev with e1 e2 e3
      clear e2
      subst e1 e3
      have Y2 : Hid (ys.set j (trn (iN l j)) = (l.take (j + 1)).map trn ++ l.drop (j + 1)) := by show _ = _; rw [YE.out]; exact TS.out j (by omega)
      have NB : Hid (Blk g2 32 zs wr ∧ j * 4 + 4 ≤ zs.length) := ⟨nb, zl⟩
      have PT : Hid (∀ w' x, Blk g2 32 (zs.take (j * 4) ++ insL x ++ zs.drop (j * 4 + 4)) w' → RowP w.heap.size w' (.slice (some ⟨g2, 0, none⟩) L c2) (ys.set j x)) := put
      have oki := OKI.out j
      clear rg nb zl put CE TS TL LTW
      generalize iN l j = x at *
      obtain ⟨xd, xi, xp, xm⟩ := x
      obtain ⟨-, ⟨i0, i1⟩, p0, p1⟩ := oki
      have i0 : -9223372036854775808 ≤ xi := i0
      have i1 : xi ≤ 9223372036854775807 := i1
      have p0 : -9223372036854775808 ≤ xp := p0
      have p1 : xp ≤ 9223372036854775807 := p1
      have tc : ∀ i, i < 4 → ∃ u, wr.cell? ⟨g2, j * 4 + i, none⟩ = some u := fun i hi => ⟨_, NB.out.1.cell (j * 4 + i) _ (List.getElem?_eq_getElem (by have := NB.out.2; omega))⟩
      obtain ⟨u0, t0⟩ := tc 0 (by omega)
      obtain ⟨u1, t1⟩ := tc 1 (by omega)
      obtain ⟨u2, t2⟩ := tc 2 (by omega)
      obtain ⟨u3, t3⟩ := tc 3 (by omega)
      have f0 := NB.out.1.fz (j * 4)
      have f1 := NB.out.1.fz (j * 4 + 1)
      have f2 := NB.out.1.fz (j * 4 + 2)
      have f3 := NB.out.1.fz (j * 4 + 3)
      rw [Nat.add_zero] at t0
      have ne1 : g ≠ g2 := by omega
      have ne2 : g2 ≠ g := by omega
      clear tc
      go_wp2_with fail
      go_region_held3 (fun w' => w'.cell? ⟨g, o + j * 4, none⟩ = some (.int .i64 xd) ∧ w'.cell? ⟨g, o + j * 4 + 1, none⟩ = some (.int .i64 xi) ∧ w'.cell? ⟨g, o + j * 4 + 2, none⟩ = some (.int .i64 xp) ∧ w'.cell? ⟨g, o + j * 4 + 3, none⟩ = some (.bool xm)) (first | exact ⟨d0, d1, d2, d3⟩ | go_keep) (fail)
      have hw1 : IntKind.i64.wrap (xp.tdiv 2) = xp.tdiv 2 := by have := tdiv_ok (x := xp) ⟨p0, p1⟩; unfold i64 at this; rw [IntKind.wrap_i64]; omega
      have hw2 : IntKind.i64.wrap (xi.tdiv 2) = xi.tdiv 2 := by have := tdiv_ok (x := xi) ⟨i0, i1⟩; unfold i64 at this; rw [IntKind.wrap_i64]; omega
      rw [hw1, hw2]
      have G4 : Hid (wr.grownBy (((((wr.setCell ⟨g2, j * 4, none⟩ (.int .i64 xd)).setCell ⟨g2, j * 4 + 1, none⟩ (.int .i64 (xp.tdiv 2))).setCell ⟨g2, j * 4 + 2, none⟩ (.int .i64 (xi.tdiv 2))).setCell ⟨g2, j * 4 + 3, none⟩ (.bool !xm)).drew) (some g2)) := by
        have := grownBy_trans (grownBy_trans (grownBy_trans (setCell_grown wr g2 (j * 4) (.int .i64 xd)) (setCell_grown _ g2 (j * 4 + 1) (.int .i64 (xp.tdiv 2)))) (setCell_grown _ g2 (j * 4 + 2) (.int .i64 (xi.tdiv 2)))) (setCell_grown _ g2 (j * 4 + 3) (.bool !xm))
        exact grownBy_drewN this 1
      have N4 : Hid (Blk g2 32 (zs.take (j * 4) ++ insL (trn ⟨xd, xi, xp, xm⟩) ++ zs.drop (j * 4 + 4)) (((((wr.setCell ⟨g2, j * 4, none⟩ (.int .i64 xd)).setCell ⟨g2, j * 4 + 1, none⟩ (.int .i64 (xp.tdiv 2))).setCell ⟨g2, j * 4 + 2, none⟩ (.int .i64 (xi.tdiv 2))).setCell ⟨g2, j * 4 + 3, none⟩ (.bool !xm)).drew)) := by
        have b4 := (((NB.out.1.set (i := j * 4) (.int .i64 xd)).set (i := j * 4 + 1) (.int .i64 (xp.tdiv 2))).set (i := j * 4 + 2) (.int .i64 (xi.tdiv 2))).set (i := j * 4 + 3) (.bool !xm)
        rw [set4 _ _ _ _ _ _ NB.out.2] at b4
        exact b4.drewN 1
      have B4 : Hid (RowP w.heap.size (((((wr.setCell ⟨g2, j * 4, none⟩ (.int .i64 xd)).setCell ⟨g2, j * 4 + 1, none⟩ (.int .i64 (xp.tdiv 2))).setCell ⟨g2, j * 4 + 2, none⟩ (.int .i64 (xi.tdiv 2))).setCell ⟨g2, j * 4 + 3, none⟩ (.bool !xm)).drew) (.slice (some ⟨g2, 0, none⟩) L c2) (ys.set j (trn ⟨xd, xi, xp, xm⟩)) ∧ Below w.heap.size w (((((wr.setCell ⟨g2, j * 4, none⟩ (.int .i64 xd)).setCell ⟨g2, j * 4 + 1, none⟩ (.int .i64 (xp.tdiv 2))).setCell ⟨g2, j * 4 + 2, none⟩ (.int .i64 (xi.tdiv 2))).setCell ⟨g2, j * 4 + 3, none⟩ (.bool !xm)).drew) ∧ Blk w.heap.size 24 [.int .i64 A, .int .i64 R] (((((wr.setCell ⟨g2, j * 4, none⟩ (.int .i64 xd)).setCell ⟨g2, j * 4 + 1, none⟩ (.int .i64 (xp.tdiv 2))).setCell ⟨g2, j * 4 + 2, none⟩ (.int .i64 (xi.tdiv 2))).setCell ⟨g2, j * 4 + 3, none⟩ (.bool !xm)).drew)) := ⟨PT.out _ _ N4.out, below_row B.out.2.1 G4.out hg2, B.out.2.2.grown G4.out (by simp; omega)⟩
      clear G4 N4 B PT NB t0 t1 t2 t3 f0 f1 f2 f3 d0 d1 d2 d3 hw1 hw2
      generalize (((((wr.setCell ⟨g2, j * 4, none⟩ (.int .i64 xd)).setCell ⟨g2, j * 4 + 1, none⟩ (.int .i64 (xp.tdiv 2))).setCell ⟨g2, j * 4 + 2, none⟩ (.int .i64 (xi.tdiv 2))).setCell ⟨g2, j * 4 + 3, none⟩ (.bool !xm)).drew) = w4 at *
      go_wp2_with fail
      go_roundw
      case rel => exact ⟨j + 1, _, by go_num, by omega, Y2.out, B4.out⟩
      case measure => simp [intOf]; omega
    · obtain rfl : j = L := by omega
      have YL : Hid (ys = l.map trn) := YE.out.trans TE.out
      have p0 := B.out.2.2.cell 0 _ rfl
      have p1 := B.out.2.2.cell 1 _ rfl
      have RY := B.out.1.rd
      rw [YL.out] at RY
      have RH : Hid _ := RY
      clear RY CE TS TL LTW
      go_wp2_with fail
      refine (AS.out _ _ _ (.inr rfl) B.out.2.1 RH.out).mono ?_
      rintro e w5 ⟨rfl, b5⟩
      have B5 : Hid (Below w.heap.size w w5) := below_trans B.out.2.1 b5
      clear b5 B
      go_wp2_with fail
      go_ret
      exact ⟨rfl, B5.out⟩
end Go.Proofs.Ytekejcpgoijoaab
