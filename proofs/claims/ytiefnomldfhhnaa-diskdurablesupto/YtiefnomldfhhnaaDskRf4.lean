/-
  Ours: the reference's fallen.
-/
import Derived.Test.YtiefnomldfhhnaaDskRf3
namespace Go.Proofs.Ytiefnomldfhhnaa
open Go.RowKit

theorem infoA : (Try.prog.info? 88).map (fun i => (i.zero, i.size, i.bytes)) = some (some (.agg #[.int .i64 0, .int .i64 0]), 2, 16) := by kernel_rfl
theorem underA : Try.prog.underlying 32 = some (.slice 88) := by kernel_rfl
theorem qv_app (q : List (Int × Int)) (p : Int × Int) : qv (q ++ [p]) = qv q ++ [.int .i64 p.1, .int .i64 p.2] := by simp [qv]
theorem qv_get : ∀ (q : List (Int × Int)) (k : Nat) (p : Int × Int), q[k]? = some p → (qv q)[k * 2]? = some (.int .i64 p.1) ∧ (qv q)[k * 2 + 1]? = some (.int .i64 p.2)
  | [], k, p, h => by simp at h
  | c :: q, 0, p, h => by simp at h; subst h; exact ⟨rfl, rfl⟩
  | c :: q, k + 1, p, h => by
    have := qv_get q k p (by simpa using h)
    rw [show qv (c :: q) = .int .i64 c.1 :: .int .i64 c.2 :: qv q from rfl, show (k + 1) * 2 = k * 2 + 1 + 1 by omega]
    simpa using this
theorem rowA_cell {w : World} {g n c : Nat} {ar : List (Int × Int)} (h : RowA w (.slice (some ⟨g, 0, none⟩) n c) ar) (k : Nat) (p : Int × Int) (hp : ar[k]? = some p) : w.cell? ⟨g, k * 2, none⟩ = some (.int .i64 p.1) ∧ w.cell? ⟨g, k * 2 + 1, none⟩ = some (.int .i64 p.2) := by
  have q := qv_get ar k p hp
  have c1 := World.ownsRow.cells h rfl _ _ q.1
  have c2 := World.ownsRow.cells h rfl _ _ q.2
  rw [Addr.add_lit, Nat.zero_add] at c1 c2
  exact ⟨c1, c2⟩
theorem rowA_at {w : World} {s : Sl} {ar : List (Int × Int)} (h : RowA w s.v ar) (h0 : 0 < ar.length) : ∃ g c, s = ⟨some ⟨g, 0, none⟩, ar.length, c⟩ ∧ g < w.heap.size := by
  rcases h.2 with ⟨_, e⟩ | ⟨g, cap, cur, e, _, hg, _⟩
  · omega
  · obtain ⟨a, n, c⟩ := s
    injection e with e1 e2 e3
    subst e1 e2 e3
    exact ⟨g, c, rfl, (Array.getElem?_eq_some_iff.1 hg).1⟩
theorem rowA_n {w : World} {s : Sl} {ar : List (Int × Int)} (h : RowA w s.v ar) : s.n = ar.length := by
  rcases h.2 with ⟨e, e0⟩ | ⟨g, cap, cur, e, _⟩
  · obtain ⟨a, n, c⟩ := s
    injection e with e1 e2 e3
    simp only at e2 ⊢; omega
  · obtain ⟨a, n, c⟩ := s
    injection e with e1 e2 e3

theorem wpList_pushA {wr : World} {ops : Array Oper} {rest : List Oper} {o : Oper} {a : Act} {Q : Exit → Act → World → Prop} (hgd : o.guard = none) (s x : Operand)
    (ho : o.op = .call { callee := .builtin .append, args := #[s, x], argTypes := #[32, 32] })
    (v : Value) (ar : List (Int × Int)) (A K : Int) (hs : a.eval s = v) (hown : RowA wr v ar) (hx : a.eval x = .slice (some ⟨wr.heap.size, 0, none⟩) 1 1) (hl : ar.length ≤ 64)
    (h : ∀ v' w', RowA w' v' (ar ++ [(A, K)]) → wr.grownBy w' v.ownBlock → (∀ g, v'.ownBlock = some g → v.ownBlock = some g ∨ wr.heap.size ≤ g) → wpList Try.prog ops Q rest (a.put o.dst v') w') :
    wpList Try.prog ops Q (o :: rest) a (wr.alloc (.cells #[.int .i64 A, .int .i64 K] 88)) := by
  obtain ⟨i, hi, hz0, hz1, hz2⟩ := info_parts infoA
  have BA := below_alloc wr (.cells #[.int .i64 A, .int .i64 K] 88)
  have hb := Blk.new 88 [.int .i64 A, .int .i64 K] wr
  have own2 : RowA (wr.alloc (.cells #[.int .i64 A, .int .i64 K] 88)) v ar := RowK.kp hown (Kp.of_below BA (fun _ => False)) (fun _ _ h => h)
  refine wpList_catK hgd s x _ ho 88 i _ 2 16 underA hi hz0 hz1 hz2 rfl (by decide) v ar.length (qv ar) hs own2 ⟨wr.heap.size, 0, none⟩ 1 1 [.int .i64 A, .int .i64 K] hx rfl (by decide) (fun j u hj => by rw [Addr.add_lit, Nat.zero_add]; exact hb.cell j u hj) (fun u hu => by simp at hu; rcases hu with rfl | rfl <;> rfl) (by unfold maxLen; omega) (by omega) ?_
  intro v' w' r gr ob
  refine h v' w' ?_ (grownBy_trans (grownBy_below BA _) gr) (fun g hg => (ob g hg).imp id (fun h => by have := BA.size; omega))
  unfold RowA
  rw [qv_app, List.length_append]
  exact r


set_option maxRecDepth 100000 in
set_option maxHeartbeats 2000000 in
theorem rfallen_at (T : Nat → Prop) (t : Dk) (x0 x1 p0 p1 xa : Sl) (cn cn' : Int) (dn : Bool) (nw : Int) (w : World) (ok : t.Ok) (h : RfV T t x0 x1 p0 p1 xa cn w) (c : Int × Int) (r : List (Int × Int)) (k : Nat) (hk : c.2 = (k : Int)) (hk2 : k ≤ 16777216) (hq : t.q = c :: r) (hc : ∀ x ∈ r, 1 ≤ x.1 ∧ x.1 ≤ 1000000) :
    Calls Try.prog 51 #[.agg (RV x0 x1 p0 p1 xa cn' dn nw).toArray] w fun e w' => ∃ y0 y1 ya, e = .returned (.agg (RV y0 y1 Sl.z Sl.z ya 0 true nw).toArray) ∧ RfNew T w (t.down k) y0 y1 Sl.z Sl.z ya 0 w' := by
  obtain ⟨ar, ra, ca⟩ := h.ar
  obtain ⟨c0, hc0⟩ : ∃ c0, ar = c0 :: r ∧ c0.2 = (k : Int) := by
    cases ar with
    | nil => rw [hq] at ca; exact absurd ca.1 (by simp)
    | cons d s =>
      have := ca.1
      rw [hq] at this
      injection this with e1 e2
      exact ⟨d, by rw [e2], by rw [← hk, e1]⟩
  obtain ⟨har, hck⟩ := hc0
  subst har
  obtain ⟨g, cp, hxa, glt⟩ := rowA_at ra (by simp)
  subst hxa
  have hrl : r.length + 1 ≤ 64 := by have := ok.q; rw [hq] at this; simpa using this
  have AC : Hid (∀ j p, (c0 :: r)[j]? = some p → ∀ w', Below w.heap.size w w' → w'.cell? ⟨g, j * 2, none⟩ = some (.int .i64 p.1) ∧ w'.cell? ⟨g, j * 2 + 1, none⟩ = some (.int .i64 p.2)) := fun j p hp w' hb => by
    have := rowA_cell ra j p hp
    exact ⟨(hb.cell (p := ⟨g, j * 2, none⟩) glt).trans this.1, (hb.cell (p := ⟨g, j * 2 + 1, none⟩) glt).trans this.2⟩
  have UT : Hid (∀ (v : Value) (bs : List Nat) w', bs.length ≤ 16777216 → RdB w' v bs → Calls Try.prog 20 #[v, .int .i64 (k : Int)] w' (NewB w' (bs.take k))) := fun v bs w' hl hr => rupTo_at bs v k w' (by omega) (by omega) hr
  have JN : Hid (∀ (u v : Value) (xs bs : List Nat) w', xs.length ≤ 16777216 → bs.length ≤ 16777216 → RdB w' u xs → RdB w' v bs → Calls Try.prog 46 #[u, v] w' (NewB w' (xs ++ bs))) := fun u v xs bs w' h1 h2 h3 h4 => rjoined_at xs bs u v w' (by omega) (by omega) h3 h4
  have b0 := ok.l0
  have b1 := ok.l1
  have FIN : Hid (∀ w' (y0 y1 ya : Sl), Below w.heap.size w w' → RowB 5 w.heap.size w' y0.v (t.b0.take t.d0 ++ (t.b0.drop t.d0).take k) → RowB 5 w.heap.size w' y1.v (t.b1.take t.d1 ++ (t.b1.drop t.d1).take k) → RowA w' ya.v r → (∀ g, ya.v.ownBlock = some g → w.heap.size ≤ g ∧ g < w'.heap.size) → RfNew T w (t.down k) y0 y1 Sl.z Sl.z ya 0 w') := fun w' y0 y1 ya hb r0 r1 rr ho => by
    rw [take_left] at r0 r1
    have e0 : (t.down k).b0.take (t.down k).d0 = t.b0.take (left t.b0 t.d0 k) := by show (t.b0.take (left t.b0 t.d0 k)).take (left t.b0 t.d0 k) = _; rw [List.take_take, Nat.min_self]
    have e1 : (t.down k).b1.take (t.down k).d1 = t.b1.take (left t.b1 t.d1 k) := by show (t.b1.take (left t.b1 t.d1 k)).take (left t.b1 t.d1 k) = _; rw [List.take_take, Nat.min_self]
    have f0 : (t.down k).b0.drop (t.down k).d0 = [] := by show (t.b0.take (left t.b0 t.d0 k)).drop (left t.b0 t.d0 k) = _; simp
    have f1 : (t.down k).b1.drop (t.down k).d1 = [] := by show (t.b1.take (left t.b1 t.d1 k)).drop (left t.b1 t.d1 k) = _; simp
    refine RfNew.mk h.s hb (by rw [e0]; exact r0.mono (Nat.zero_le _)) (by rw [e1]; exact r1.mono (Nat.zero_le _)) (by rw [f0]; exact RowV.nil _ _ _) (by rw [f1]; exact RowV.nil _ _ _) ⟨r, rr, ?_⟩ (new_block r0 (Nat.le_refl _)) (new_block r1 (Nat.le_refl _)) nil_block nil_block (fun g hg => .inr (ho g hg))
    show cnt r 0 t.q.tail
    rw [hq]; exact cnt_tail hc
  have X0 : Hid (∀ w', Below w.heap.size w w' → RdB w' (.slice x0.a x0.n x0.c) (t.b0.take t.d0) ∧ RdB w' (.slice p0.a p0.n p0.c) (t.b0.drop t.d0) ∧ RdB w' (.slice x1.a x1.n x1.c) (t.b1.take t.d1) ∧ RdB w' (.slice p1.a p1.n p1.c) (t.b1.drop t.d1)) := fun w' hb => ⟨Rd.later h.d0.rd hb, Rd.later h.q0.rd hb, Rd.later h.d1.rd hb, Rd.later h.q1.rd hb⟩
  have L0 : (t.b0.take t.d0).length ≤ 16777216 ∧ (t.b0.drop t.d0).length ≤ 16777216 ∧ (t.b1.take t.d1).length ≤ 16777216 ∧ (t.b1.drop t.d1).length ≤ 16777216 ∧ ((t.b0.drop t.d0).take k).length ≤ 16777216 ∧ ((t.b1.drop t.d1).take k).length ≤ 16777216 := by simp only [List.length_take, List.length_drop]; omega
  have a0 := (AC.out 0 c0 rfl w (Below.refl _ _))
  rw [hck] at a0
  have W2 := below2 w (RV x0 x1 p0 p1 ⟨some ⟨g, 0, none⟩, (c0 :: r).length, cp⟩ cn' dn nw) RZ 34 34
  have D2 := blk1 w (RV x0 x1 p0 p1 ⟨some ⟨g, 0, none⟩, (c0 :: r).length, cp⟩ cn' dn nw) RZ 34 34
  have Z2 := blk2 w (RV x0 x1 p0 p1 ⟨some ⟨g, 0, none⟩, (c0 :: r).length, cp⟩ cn' dn nw) RZ 34 34
  obtain ⟨N, hN⟩ : ∃ N, (c0 :: r).length = N := ⟨_, rfl⟩
  rw [hN] at W2 D2 Z2 ⊢
  have HN : Hid ((c0 :: r).length = N) := hN
  have hN64 : 0 < N ∧ N ≤ 64 := by rw [← hN]; simp; omega
  clear ra ca hc hq hk h ok hN hrl b0 b1
  go_enter Try.func51, Try.ntmps51
  go_upto_region 1 with fail
  generalize (w.alloc (.cells (RV x0 x1 p0 p1 ⟨some ⟨g, 0, none⟩, N, cp⟩ cn' dn nw).toArray 34)).alloc (.cells RZ.toArray 34) = w2 at *
  obtain ⟨Q, hQ⟩ : ∃ Q, w.heap.size = Q := ⟨_, rfl⟩
  rw [hQ] at D2 Z2 ⊢
  have HQ : Hid (w.heap.size = Q) := hQ
  clear hQ
  have a1 := (AC.out 0 c0 rfl w2 W2).2
  rw [hck] at a1
  have d4 := D2.cell 4 _ rfl
  clear a0
  go_upto_region 2 with fail
  have e0 := D2.cell 0 _ rfl
  have e2 := D2.cell 2 _ rfl
  have ez := D2.fz 0
  have szq := Z2.lt
  go_cut [3] from 0 to 0 (fun v3 wx => v3 = .int .i64 (k : Int) ∧ ∃ y : Sl, RowB 5 w.heap.size wx y.v (t.b0.take t.d0 ++ (t.b0.drop t.d0).take k) ∧ Blk Q 34 (RV y x1 p0 p1 ⟨some ⟨g, 0, none⟩, N, cp⟩ cn' dn nw) wx ∧ Blk (Q + 1) 34 RZ wx ∧ Below w.heap.size w wx ∧ (∀ g, y.v.ownBlock = some g → Q + 1 < g))
  case first =>
    go_region_with (first
      | (go_at_call 20; refine (UT.out _ _ _ L0.2.1 ((X0.out _ (by first | exact W2 | exact below_drewN W2 1 | exact below_drewN W2 2)).2.1)).mono ?_; rintro e wa ⟨va, rfl, ra, ba⟩; obtain ⟨sa, ea, na⟩ := sl_of ra; subst ea; clear na; have bb : Below w2.heap.size w2 wa := (by first | exact ba | exact below_dr (n := 1) ba | exact below_dr (n := 2) ba); have BA := below_trans W2 bb; have DA := D2.below bb; have ZA := Z2.below bb; have f0 := DA.cell 0 _ rfl; have f2 := DA.cell 2 _ rfl; have fz := DA.fz 0)
      | (go_at_call 46; refine (JN.out _ _ _ _ _ L0.1 L0.2.2.2.2.1 ((X0.out _ (by first | exact BA | exact below_drewN BA 1)).1) (by first | exact ra.rd | exact Rd.drewN ra.rd 1)).mono ?_; rintro e wb ⟨vb, rfl, rb, bc⟩; obtain ⟨y, eb, nb⟩ := sl_of rb; subst eb; clear nb; have bd : Below wa.heap.size wa wb := (by first | exact bc | exact below_dr (n := 1) bc); have BB := below_trans BA bd; have DB := DA.below bd; have ZB := ZA.below bd; have g0 := DB.cell 0 _ rfl; have g2 := DB.cell 2 _ rfl; have gz := DB.fz 0))
    all_goals
      go_wp2_with fail
      go_meet
      have gs := setCell_grown wb Q 0 (Value.slice y.a y.n y.c)
      have nq : ∀ g, y.v.ownBlock = some g → Q + 1 < g := fun g hg => by have := rb.block_ge hg; have := bb.size; simp at this ⊢; omega
      have ry : RowB 5 w.heap.size wb y.v (t.b0.take t.d0 ++ (t.b0.drop t.d0).take k) := RowV.mono rb BA.size
      exact ⟨rfl, y, RowV.kept ry gs (fun g hg e => by have := nq g hg; injection e with e; omega), Blk.set (i := 0) DB _, ZB.grown gs (by omega), grownBy_to_below BB gs (Nat.le_of_eq HQ.out), nq⟩
  case rest =>
  obtain ⟨rfl, y0, ry0, D3, Z3, W3, ny0⟩ := hcut
  have ny0 : Hid (∀ g, y0.v.ownBlock = some g → Q + 1 < g) := ny0
  obtain ⟨w3, hw3⟩ : ∃ w3, w3 = wc := ⟨_, rfl⟩
  subst hw3
  clear e0 e2 ez D2 Z2 W2 d4 szq
  go_upto_region 3 with fail
  have e1 := D3.cell 1 _ rfl
  have e3 := D3.cell 3 _ rfl
  have ez := D3.fz 1
  have szq := Z3.lt
  go_cut [3] from 0 to 0 (fun v3 wx => v3 = .int .i64 (k : Int) ∧ ∃ y : Sl, RowB 5 w.heap.size wx y.v (t.b1.take t.d1 ++ (t.b1.drop t.d1).take k) ∧ Blk Q 34 (RV y0 y p0 p1 ⟨some ⟨g, 0, none⟩, N, cp⟩ cn' dn nw) wx ∧ Blk (Q + 1) 34 RZ wx ∧ Below w.heap.size w wx ∧ (∀ g, y.v.ownBlock = some g → Q + 1 < g) ∧ RowB 5 w.heap.size wx y0.v (t.b0.take t.d0 ++ (t.b0.drop t.d0).take k))
  case first =>
    go_region_with (first
      | (go_at_call 20; refine (UT.out _ _ _ L0.2.2.2.1 ((X0.out _ (by first | exact W3 | exact below_drewN W3 1 | exact below_drewN W3 2)).2.2.2)).mono ?_; rintro e wa ⟨va, rfl, ra, ba⟩; obtain ⟨sa, ea, na⟩ := sl_of ra; subst ea; clear na; have bb : Below w3.heap.size w3 wa := (by first | exact ba | exact below_dr (n := 1) ba | exact below_dr (n := 2) ba); have BA := below_trans W3 bb; have DA := D3.below bb; have ZA := Z3.below bb; have f1 := DA.cell 1 _ rfl; have f3 := DA.cell 3 _ rfl; have fz := DA.fz 1)
      | (go_at_call 46; refine (JN.out _ _ _ _ _ L0.2.2.1 L0.2.2.2.2.2 ((X0.out _ (by first | exact BA | exact below_drewN BA 1)).2.2.1) (by first | exact ra.rd | exact Rd.drewN ra.rd 1)).mono ?_; rintro e wb ⟨vb, rfl, rb, bc⟩; obtain ⟨y, eb, nb⟩ := sl_of rb; subst eb; clear nb; have bd : Below wa.heap.size wa wb := (by first | exact bc | exact below_dr (n := 1) bc); have BB := below_trans BA bd; have DB := DA.below bd; have ZB := ZA.below bd; have g1 := DB.cell 1 _ rfl; have g3 := DB.cell 3 _ rfl; have gz := DB.fz 1))
    all_goals
      go_wp2_with fail
      go_meet
      have gs := setCell_grown wb Q 1 (Value.slice y.a y.n y.c)
      have nq : ∀ g, y.v.ownBlock = some g → Q + 1 < g := fun g hg => by have := rb.block_ge hg; have := bb.size; simp at this ⊢; omega
      have ry : RowB 5 w.heap.size wb y.v (t.b1.take t.d1 ++ (t.b1.drop t.d1).take k) := RowV.mono rb BA.size
      have ry' := RowV.later (RowV.later ry0 bb) bd
      exact ⟨rfl, y, RowV.kept ry gs (fun g hg e => by have := nq g hg; injection e with e; omega), Blk.set (i := 1) DB _, ZB.grown gs (by omega), grownBy_to_below BB gs (Nat.le_of_eq HQ.out), nq, RowV.kept ry' gs (fun g hg e => by have := ny0.out g hg; injection e with e; omega)⟩
  case rest =>
  obtain ⟨rfl, y1, ry1, D4, Z4, W4, ny1, ry0⟩ := hcut
  have ny1 : Hid (∀ g, y1.v.ownBlock = some g → Q + 1 < g) := ny1
  obtain ⟨w4, hw4⟩ : ∃ w4, w4 = wc := ⟨_, rfl⟩
  subst hw4
  clear e1 e3 ez D3 Z3 W3 szq UT JN L0 X0
  have c2 := D4.cell 2 _ rfl
  have c3 := D4.cell 3 _ rfl
  have f2 := D4.fz 2
  have f3 := D4.fz 3
  have gs4 := grownBy_trans (setCell_grown w4 Q 2 (Value.slice none 0 0)) (setCell_grown (w4.setCell ⟨Q, 2, none⟩ (Value.slice none 0 0)) Q 3 (Value.slice none 0 0))
  have D5 : Blk Q 34 (RV y0 y1 Sl.z Sl.z ⟨some ⟨g, 0, none⟩, N, cp⟩ cn' dn nw) ((w4.setCell ⟨Q, 2, none⟩ (Value.slice none 0 0)).setCell ⟨Q, 3, none⟩ (Value.slice none 0 0)) := Blk.set (i := 3) (Blk.set (i := 2) D4 (Value.slice none 0 0)) (Value.slice none 0 0)
  have Z5 := Z4.grown gs4 (by omega)
  have W5 := grownBy_to_below W4 gs4 (Nat.le_of_eq HQ.out)
  have ry0 := RowV.kept ry0 gs4 (fun g hg e => by have := ny0.out g hg; injection e with e; omega)
  have ry1 := RowV.kept ry1 gs4 (fun g hg e => by have := ny1.out g hg; injection e with e; omega)
  clear D4 Z4 W4 gs4
  go_upto_region 6 with fail
  generalize (w4.setCell ⟨Q, 2, none⟩ (Value.slice none 0 0)).setCell ⟨Q, 3, none⟩ (Value.slice none 0 0) = w5 at *
  clear c2 c3 f2 f3
  obtain ⟨H, hH⟩ : ∃ H, w5.heap.size = H := ⟨_, rfl⟩
  have qH : Q + 1 < H := by rw [← hH]; exact Z5.lt
  have yH : Hid ((∀ g, y0.v.ownBlock = some g → g < H) ∧ (∀ g, y1.v.ownBlock = some g → g < H)) := by rw [← hH]; exact ⟨fun g hg => ry0.block_lt hg, fun g hg => ry1.block_lt hg⟩
  go_wp2_with fail
  go_loopw [4, 5] (fun v vi wz => ∃ m : Nat, vi = .int .i64 (m : Int) ∧ 1 ≤ m ∧ m ≤ N ∧ RowA wz v (r.take (m - 1)) ∧ (∀ g, v.ownBlock = some g → H ≤ g) ∧ H ≤ wz.heap.size ∧ Blk Q 34 (RV y0 y1 Sl.z Sl.z ⟨some ⟨g, 0, none⟩, N, cp⟩ cn' dn nw) wz ∧ Blk (Q + 1) 34 RZ wz ∧ Below w.heap.size w wz ∧ RowB 5 w.heap.size wz y0.v (t.b0.take t.d0 ++ (t.b0.drop t.d0).take k) ∧ RowB 5 w.heap.size wz y1.v (t.b1.take t.d1 ++ (t.b1.drop t.d1).take k)) (fun _ vi _ => N - (intOf vi).toNat)
  case atStart => exact ⟨1, rfl, by omega, by omega, RowK.nil _ _ _, (fun g hg => by cases hg), by omega, D5, Z5, W5, ry0, ry1⟩
  case round =>
    clear D5 Z5 W5 ry0 ry1
    obtain ⟨m, rfl, hm1, hm2, hrow, hob, hHz, D5, Z5, W5, ry0, ry1⟩ := hrel
    have d4 := D5.cell 4 _ rfl
    have hrl : (r.take (m - 1)).length ≤ 64 := by have := HN.out; simp at this ⊢; omega
    by_cases hlt : (m : Int) < (N : Int)
    · obtain ⟨p, hp⟩ : ∃ p, (c0 :: r)[m]? = some p := ⟨_, List.getElem?_eq_getElem (by have := HN.out; omega)⟩
      obtain ⟨q1, q2⟩ := AC.out m p hp wr W5
      have CT : Hid (r.take (m + 1 - 1) = r.take (m - 1) ++ [(p.1, p.2)]) := by
        show _ = _
        rw [show m + 1 - 1 = (m - 1) + 1 by omega, List.take_add_one]
        congr 1
        have : (c0 :: r)[m]? = r[m - 1]? := by rw [show m = (m - 1) + 1 by omega]; simp
        rw [← this, hp]; rfl
      go_wp2_with (at_builtin; (refine wpList_pushA rfl (.tmp 36) (.tmp 42) rfl _ (r.take (m - 1)) p.1 p.2 rfl hrow rfl hrl ?_); intro v' w6 hrow' hgr hob')
      have ne : ∀ G, G < H → (fun g => _ = some g) G → False := fun G hG e => by have := hob G e; omega
      go_roundw
      case rel =>
        refine ⟨m + 1, by go_num, by omega, by omega, by rw [CT.out]; exact hrow', fun g hg => ?_, Nat.le_trans hHz hgr.size, D5.kp (Kp.of_grown hgr) (ne _ (by omega)), Z5.kp (Kp.of_grown hgr) (ne _ (by omega)), ?_, RowV.kp ry0 (Kp.of_grown hgr) (fun g hg => ne g (yH.out.1 g hg)), RowV.kp ry1 (Kp.of_grown hgr) (fun g hg => ne g (yH.out.2 g hg))⟩
        · rcases hob' g hg with h | h
          · exact hob g h
          · omega
        · refine ⟨hgr.os.trans W5.os, hgr.tape.trans W5.tape, hgr.output.trans W5.output, Nat.le_trans W5.size hgr.size, fun i hi => (hgr.block i (Nat.lt_of_lt_of_le hi W5.size) (fun e => ?_)).trans (W5.block i hi)⟩
          have := hob i e.symm
          have := HQ.out
          omega
      case measure => simp [intOf]; omega
    · obtain rfl : m = N := by omega
      have HR : Hid (r.take (m - 1) = r) := List.take_of_length_le (by have := HN.out; simp at this; omega)
      rw [HR.out] at hrow
      obtain ⟨ya, hya⟩ : ∃ ya : Sl, u4 = ya.v := by
        rcases hrow.2 with ⟨e, _⟩ | ⟨g, cap, cur, e, _⟩
        · exact ⟨Sl.z, e⟩
        · exact ⟨⟨_, _, _⟩, e⟩
      subst hya
      have c4 := D5.cell 4 _ rfl
      have c5 := D5.cell 5 _ rfl
      have c6 := D5.cell 6 _ rfl
      have f4 := D5.fz 4
      have f5 := D5.fz 5
      have f6 := D5.fz 6
      have gs := grownBy_trans (grownBy_trans (setCell_grown wr Q 4 (Value.slice ya.a ya.n ya.c)) (setCell_grown (wr.setCell ⟨Q, 4, none⟩ (Value.slice ya.a ya.n ya.c)) Q 5 (Value.int .i64 0))) (setCell_grown ((wr.setCell ⟨Q, 4, none⟩ (Value.slice ya.a ya.n ya.c)).setCell ⟨Q, 5, none⟩ (Value.int .i64 0)) Q 6 (Value.bool true))
      have D7 : Blk Q 34 (RV y0 y1 Sl.z Sl.z ya 0 true nw) (((wr.setCell ⟨Q, 4, none⟩ (Value.slice ya.a ya.n ya.c)).setCell ⟨Q, 5, none⟩ (Value.int .i64 0)).setCell ⟨Q, 6, none⟩ (Value.bool true)) := Blk.set (i := 6) (Blk.set (i := 5) (Blk.set (i := 4) D5 (Value.slice ya.a ya.n ya.c)) (Value.int .i64 0)) (Value.bool true)
      have Z7 := Z5.grown gs (by omega)
      have W7 := grownBy_to_below W5 gs (Nat.le_of_eq HQ.out)
      have rz0 := RowV.kept ry0 gs (fun g hg e => by have := ny0.out g hg; injection e with e; omega)
      have rz1 := RowV.kept ry1 gs (fun g hg e => by have := ny1.out g hg; injection e with e; omega)
      have rza := RowK.kp hrow (Kp.of_grown gs) (fun g hg e => by have := hob g hg; injection e with e; omega)
      have rlt : ∀ g, ya.v.ownBlock = some g → g < wr.heap.size := fun g hg => (World.ownsRow.lt hrow g hg).2
      have szw := gs.size
      clear D5 Z5 W5 gs ry0 ry1 hrow
      go_upto_region 14 with fail
      generalize ((wr.setCell ⟨Q, 4, none⟩ (Value.slice ya.a ya.n ya.c)).setCell ⟨Q, 5, none⟩ (Value.int .i64 0)).setCell ⟨Q, 6, none⟩ (Value.bool true) = w7 at *
      clear c4 c5 c6 f4 f5 f6 d4
      obtain ⟨b9, g9⟩ := Blk.eight Z7 (Value.slice y0.a y0.n y0.c) (Value.slice y1.a y1.n y1.c) (Value.slice Sl.z.a Sl.z.n Sl.z.c) (Value.slice Sl.z.a Sl.z.n Sl.z.c) (Value.slice ya.a ya.n ya.c) (Value.int .i64 0) (Value.bool true) (Value.int .i64 nw)
      have B9 : Hid (Blk _ _ _ _) := b9
      have W9 : Hid (Below _ _ _) := grownBy_to_below W7 g9 (by have := HQ.out; omega)
      have s9 := g9.size
      have r90 : Hid (RowB _ _ _ _ _) := RowV.kept rz0 g9 (fun g hg e => by have := ny0.out g hg; injection e with e; omega)
      have r91 : Hid (RowB _ _ _ _ _) := RowV.kept rz1 g9 (fun g hg e => by have := ny1.out g hg; injection e with e; omega)
      have r9a : Hid (RowA _ _ _) := RowK.kp rza (Kp.of_grown g9) (fun g hg e => by have := hob g hg; injection e with e; omega)
      have r9b : Hid (∀ g, ya.v.ownBlock = some g → w.heap.size ≤ g ∧ g < _) := fun g hg => ⟨by have := hob g hg; have := HQ.out; omega, Nat.lt_of_lt_of_le (rlt g hg) (Nat.le_trans szw s9)⟩
      have l0 := D7.cell 0 _ rfl
      have m0 := Z7.cell 0 _ rfl
      have n0 := Z7.fz 0
      have l1 := D7.cell 1 _ rfl
      have m1 := Z7.cell 1 _ rfl
      have n1 := Z7.fz 1
      have l2 := D7.cell 2 _ rfl
      have m2 := Z7.cell 2 _ rfl
      have n2 := Z7.fz 2
      have l3 := D7.cell 3 _ rfl
      have m3 := Z7.cell 3 _ rfl
      have n3 := Z7.fz 3
      have l4 := D7.cell 4 _ rfl
      have m4 := Z7.cell 4 _ rfl
      have n4 := Z7.fz 4
      have l5 := D7.cell 5 _ rfl
      have m5 := Z7.cell 5 _ rfl
      have n5 := Z7.fz 5
      have l6 := D7.cell 6 _ rfl
      have m6 := Z7.cell 6 _ rfl
      have n6 := Z7.fz 6
      have l7 := D7.cell 7 _ rfl
      have m7 := Z7.cell 7 _ rfl
      have n7 := Z7.fz 7
      clear b9 g9 D7 Z7 W7 rz0 rz1 rza s9 szw rlt
      go_wp2_with fail
      generalize (((((((w7.setCell ⟨Q + 1, 0, none⟩ (Value.slice y0.a y0.n y0.c)).setCell ⟨Q + 1, 1, none⟩ (Value.slice y1.a y1.n y1.c)).setCell ⟨Q + 1, 2, none⟩ (Value.slice none 0 0)).setCell ⟨Q + 1, 3, none⟩ (Value.slice none 0 0)).setCell ⟨Q + 1, 4, none⟩ (Value.slice ya.a ya.n ya.c)).setCell ⟨Q + 1, 5, none⟩ (Value.int .i64 0)).setCell ⟨Q + 1, 6, none⟩ (Value.bool true)).setCell ⟨Q + 1, 7, none⟩ (Value.int .i64 nw) = V9 at *
      exact bodyPost_cell rfl rfl (Q + 1) _ _ _ _ rfl B9.out Try.underlying34 rfl (by kernel_rfl) ⟨y0, y1, ya, rfl, FIN.out V9 y0 y1 ya W9.out r90.out r91.out r9a.out r9b.out⟩
end Go.Proofs.Ytiefnomldfhhnaa
