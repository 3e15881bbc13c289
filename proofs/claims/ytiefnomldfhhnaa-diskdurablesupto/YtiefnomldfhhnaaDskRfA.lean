/-
  Ours: the reference's Arm.
-/
import Derived.Test.YtiefnomldfhhnaaDskRf5
namespace Go.Proofs.Ytiefnomldfhhnaa
open Go.RowKit

theorem rowA_sl {w : World} {v : Value} {ar : List (Int × Int)} (h : RowA w v ar) : ∃ s : Sl, v = s.v := by
  rcases h.2 with ⟨e, _⟩ | ⟨g, cap, cur, e, _⟩
  · exact ⟨Sl.z, e⟩
  · exact ⟨⟨_, _, _⟩, e⟩

set_option maxRecDepth 100000 in
set_option maxHeartbeats 2000000 in
theorem rarm_at (T : Nat → Prop) (t : Dk) (x0 x1 p0 p1 xa : Sl) (cn : Int) (w : World) (h : RfV T t x0 x1 p0 p1 xa cn w) (ok : t.Ok) (a k : Int) :
    Calls Try.prog 33 #[.agg (RV x0 x1 p0 p1 xa cn t.dn t.wr).toArray, .int .i64 a, .int .i64 k] w fun e w' => ∃ ya, e = .returned (.tuple #[.agg (RV x0 x1 p0 p1 ya cn t.dn t.wr).toArray, .int .i64 (t.arm a k).2]) ∧ RfNew T w (t.arm a k).1 x0 x1 p0 p1 ya cn w' := by
  have HV : Hid (∀ w', Below w.heap.size w w' → RfV T t x0 x1 p0 p1 xa cn w') := fun w' hb => h.below hb
  have QT : Hid (∀ g, T g → g < w.heap.size) := h.s
  obtain ⟨ar, ra, ca⟩ := h.ar
  have hal : ar.length = t.q.length := cnt_len ca
  have hxn := rowA_n ra
  obtain ⟨res, hres⟩ : ∃ r, t.arm a k = r := ⟨_, rfl⟩
  rw [hres]
  have HRES : Hid (t.arm a k = res) := hres
  have W2 := below2 w (RV x0 x1 p0 p1 xa cn t.dn t.wr) RZ 34 34
  have D2 := blk1 w (RV x0 x1 p0 p1 xa cn t.dn t.wr) RZ 34 34
  have Z2 := blk2 w (RV x0 x1 p0 p1 xa cn t.dn t.wr) RZ 34 34
  have XN : Hid (xa.n = ar.length) := hxn
  have q64 : xa.n ≤ 64 := by have := ok.q; omega
  have AC : Hid (∀ j p, ar[j]? = some p → ∃ g, xa.a = some ⟨g, 0, none⟩ ∧ ∀ w', Below w.heap.size w w' → w'.cell? ⟨g, j * 2, none⟩ = some (.int .i64 p.1) ∧ w'.cell? ⟨g, j * 2 + 1, none⟩ = some (.int .i64 p.2)) := fun j p hp => by
    obtain ⟨g, cp, e, glt⟩ := rowA_at ra (by have := (List.getElem?_eq_some_iff.1 hp).1; omega)
    rw [e] at ra ⊢
    refine ⟨g, rfl, fun w' hb => ?_⟩
    have := rowA_cell ra j p hp
    exact ⟨(hb.cell (p := ⟨g, j * 2, none⟩) glt).trans this.1, (hb.cell (p := ⟨g, j * 2 + 1, none⟩) glt).trans this.2⟩
  have CA : Hid (cnt ar cn t.q) := ca
  have HAL : Hid (ar.length = t.q.length) := hal
  clear h ra ca hal hxn hres
  go_enter Try.func33, Try.ntmps33
  go_upto_region 1 with fail
  generalize (w.alloc (.cells (RV x0 x1 p0 p1 xa cn t.dn t.wr).toArray 34)).alloc (.cells RZ.toArray 34) = w3 at *
  obtain ⟨Q, hQ⟩ : ∃ Q, w.heap.size = Q := ⟨_, rfl⟩
  rw [hQ] at D2 Z2 ⊢
  have HQ : Hid (w.heap.size = Q) := hQ
  clear hQ
  have D3 := D2
  have Z3 := Z2
  have W3 := W2
  clear D2 Z2 W2
  have NT : Hid (¬ T (Q + 1) ∧ ¬ T Q) := ⟨fun hx => by have := QT.out _ hx; have := HQ.out; omega, fun hx => by have := QT.out _ hx; have := HQ.out; omega⟩
  go_cut [23] from 0 to 0 (fun v wx => v = .bool (decide (a < 1 ∨ 1000000 < a ∨ k < 0 ∨ 16777216 < k)) ∧ wx = w3)
  case first =>
    clear AC HV
    by_cases h1 : a < 1
    · have g1 : decide (a < 1) = true := decide_eq_true h1
      have DD : Hid (decide (a < 1 ∨ 1000000 < a ∨ k < 0 ∨ 16777216 < k) = true) := decide_eq_true (by omega)
      clear h1
      go_wp2_with fail
      go_meet
      exact ⟨by rw [DD.out], rfl⟩
    · have g1 : decide (a < 1) = false := decide_eq_false h1
      by_cases h2 : 1000000 < a
      · have g2 : decide (1000000 < a) = true := decide_eq_true h2
        have DD : Hid (decide (a < 1 ∨ 1000000 < a ∨ k < 0 ∨ 16777216 < k) = true) := decide_eq_true (by omega)
        clear h1 h2
        go_wp2_with fail
        go_meet
        exact ⟨by rw [DD.out], rfl⟩
      · have g2 : decide (1000000 < a) = false := decide_eq_false h2
        by_cases h3 : k < 0
        · have g3 : decide (k < 0) = true := decide_eq_true h3
          have DD : Hid (decide (a < 1 ∨ 1000000 < a ∨ k < 0 ∨ 16777216 < k) = true) := decide_eq_true (by omega)
          clear h1 h2 h3
          go_wp2_with fail
          go_meet
          exact ⟨by rw [DD.out], rfl⟩
        · have g3 : decide (k < 0) = false := decide_eq_false h3
          by_cases h4 : 16777216 < k
          · have g4 : decide (16777216 < k) = true := decide_eq_true h4
            have DD : Hid (decide (a < 1 ∨ 1000000 < a ∨ k < 0 ∨ 16777216 < k) = true) := decide_eq_true (by omega)
            clear h1 h2 h3 h4
            go_wp2_with fail
            go_meet
            exact ⟨by rw [DD.out], rfl⟩
          · have g4 : decide (16777216 < k) = false := decide_eq_false h4
            have DD : Hid (decide (a < 1 ∨ 1000000 < a ∨ k < 0 ∨ 16777216 < k) = false) := decide_eq_false (by omega)
            clear h1 h2 h3 h4
            go_wp2_with fail
            go_meet
            exact ⟨by rw [DD.out], rfl⟩
  case rest =>
  obtain ⟨rfl, hwc⟩ := hcut
  subst hwc
  obtain ⟨w3, hw3⟩ : ∃ y, y = wc := ⟨_, rfl⟩
  subst hw3
  by_cases hbad : a < 1 ∨ 1000000 < a ∨ k < 0 ∨ 16777216 < k
  · have dd : decide (a < 1 ∨ 1000000 < a ∨ k < 0 ∨ 16777216 < k) = true := decide_eq_true hbad
    rw [dd]
    have er : res = (t, 2) := by rw [← HRES.out]; unfold Dk.arm; rw [if_pos hbad]
    subst er
    clear AC hbad dd
    obtain ⟨b9, g9⟩ := Blk.eight Z3 (Value.slice x0.a x0.n x0.c) (Value.slice x1.a x1.n x1.c) (Value.slice p0.a p0.n p0.c) (Value.slice p1.a p1.n p1.c) (Value.slice xa.a xa.n xa.c) (Value.int .i64 (cn)) (Value.bool (t.dn)) (Value.int .i64 (t.wr))
    have B9 : Hid (Blk _ _ _ _) := b9
    have R9 : Hid (RfNew T w _ _ _ _ _ _ _ _) := RfNew.grown (G := Q + 1) ⟨T, HV.out _ W3, fun _ h => .inl h, W3, NT.out.1⟩ g9 (by have := HQ.out; omega)
    have l0 := D3.cell 0 _ rfl
    have l1 := D3.cell 1 _ rfl
    have l2 := D3.cell 2 _ rfl
    have l3 := D3.cell 3 _ rfl
    have l4 := D3.cell 4 _ rfl
    have l5 := D3.cell 5 _ rfl
    have l6 := D3.cell 6 _ rfl
    have l7 := D3.cell 7 _ rfl
    have m0 := Z3.cell 0 _ rfl
    have m1 := Z3.cell 1 _ rfl
    have m2 := Z3.cell 2 _ rfl
    have m3 := Z3.cell 3 _ rfl
    have m4 := Z3.cell 4 _ rfl
    have m5 := Z3.cell 5 _ rfl
    have m6 := Z3.cell 6 _ rfl
    have m7 := Z3.cell 7 _ rfl
    have mf0 := Z3.fz 0
    have mf1 := Z3.fz 1
    have mf2 := Z3.fz 2
    have mf3 := Z3.fz 3
    have mf4 := Z3.fz 4
    have mf5 := Z3.fz 5
    have mf6 := Z3.fz 6
    have mf7 := Z3.fz 7
    clear b9 g9
    go_wp2_with fail
    generalize (((((((w3.setCell ⟨Q + 1, 0, none⟩ (Value.slice x0.a x0.n x0.c)).setCell ⟨Q + 1, 1, none⟩ (Value.slice x1.a x1.n x1.c)).setCell ⟨Q + 1, 2, none⟩ (Value.slice p0.a p0.n p0.c)).setCell ⟨Q + 1, 3, none⟩ (Value.slice p1.a p1.n p1.c)).setCell ⟨Q + 1, 4, none⟩ (Value.slice xa.a xa.n xa.c)).setCell ⟨Q + 1, 5, none⟩ (Value.int .i64 (cn))).setCell ⟨Q + 1, 6, none⟩ (Value.bool (t.dn))).setCell ⟨Q + 1, 7, none⟩ (Value.int .i64 (t.wr)) = V9 at *
    exact bodyPost_cell_tmp rfl rfl (Q + 1) _ _ _ _ rfl B9.out Try.underlying34 rfl (by kernel_rfl) ⟨xa, rfl, R9.out⟩
  have dd : decide (a < 1 ∨ 1000000 < a ∨ k < 0 ∨ 16777216 < k) = false := decide_eq_false hbad
  rw [dd]
  clear dd
  by_cases hfull : 64 ≤ (xa.n : Int)
  · have d1 : decide (64 ≤ (xa.n : Int)) = true := decide_eq_true hfull
    have er : res = (t, 1) := by rw [← HRES.out]; unfold Dk.arm; rw [if_neg hbad, if_pos (by have := HAL.out; have := XN.out; omega)]
    subst er
    clear AC hbad hfull
    obtain ⟨b9, g9⟩ := Blk.eight Z3 (Value.slice x0.a x0.n x0.c) (Value.slice x1.a x1.n x1.c) (Value.slice p0.a p0.n p0.c) (Value.slice p1.a p1.n p1.c) (Value.slice xa.a xa.n xa.c) (Value.int .i64 (cn)) (Value.bool (t.dn)) (Value.int .i64 (t.wr))
    have B9 : Hid (Blk _ _ _ _) := b9
    have R9 : Hid (RfNew T w _ _ _ _ _ _ _ _) := RfNew.grown (G := Q + 1) ⟨T, HV.out _ W3, fun _ h => .inl h, W3, NT.out.1⟩ g9 (by have := HQ.out; omega)
    have l0 := D3.cell 0 _ rfl
    have l1 := D3.cell 1 _ rfl
    have l2 := D3.cell 2 _ rfl
    have l3 := D3.cell 3 _ rfl
    have l4 := D3.cell 4 _ rfl
    have l5 := D3.cell 5 _ rfl
    have l6 := D3.cell 6 _ rfl
    have l7 := D3.cell 7 _ rfl
    have m0 := Z3.cell 0 _ rfl
    have m1 := Z3.cell 1 _ rfl
    have m2 := Z3.cell 2 _ rfl
    have m3 := Z3.cell 3 _ rfl
    have m4 := Z3.cell 4 _ rfl
    have m5 := Z3.cell 5 _ rfl
    have m6 := Z3.cell 6 _ rfl
    have m7 := Z3.cell 7 _ rfl
    have mf0 := Z3.fz 0
    have mf1 := Z3.fz 1
    have mf2 := Z3.fz 2
    have mf3 := Z3.fz 3
    have mf4 := Z3.fz 4
    have mf5 := Z3.fz 5
    have mf6 := Z3.fz 6
    have mf7 := Z3.fz 7
    clear b9 g9
    go_wp2_with fail
    generalize (((((((w3.setCell ⟨Q + 1, 0, none⟩ (Value.slice x0.a x0.n x0.c)).setCell ⟨Q + 1, 1, none⟩ (Value.slice x1.a x1.n x1.c)).setCell ⟨Q + 1, 2, none⟩ (Value.slice p0.a p0.n p0.c)).setCell ⟨Q + 1, 3, none⟩ (Value.slice p1.a p1.n p1.c)).setCell ⟨Q + 1, 4, none⟩ (Value.slice xa.a xa.n xa.c)).setCell ⟨Q + 1, 5, none⟩ (Value.int .i64 (cn))).setCell ⟨Q + 1, 6, none⟩ (Value.bool (t.dn))).setCell ⟨Q + 1, 7, none⟩ (Value.int .i64 (t.wr)) = V9 at *
    exact bodyPost_cell_tmp rfl rfl (Q + 1) _ _ _ _ rfl B9.out Try.underlying34 rfl (by kernel_rfl) ⟨xa, rfl, R9.out⟩
  have d1 : decide (64 ≤ (xa.n : Int)) = false := decide_eq_false hfull
  have er : res = ({ t with q := t.q ++ [(a, k)] }, 0) := by rw [← HRES.out]; unfold Dk.arm; rw [if_neg hbad, if_neg (by have := HAL.out; have := XN.out; omega)]
  subst er
  have HB : Hid (1 ≤ a ∧ a ≤ 1000000) := by show _ ∧ _; omega
  have hn64 : xa.n < 64 := by omega
  obtain ⟨H, hH⟩ : ∃ H, w3.heap.size = H := ⟨_, rfl⟩
  have qH : Q + 1 < H := by rw [← hH]; exact Z3.lt
  have wH : Hid (w.heap.size ≤ H) := by rw [← hH]; exact W3.size
  have c4 := D3.cell 4 _ rfl
  clear hbad hfull HRES
  go_wp2_with fail
  clear c4
  go_loopw [8, 9] (fun v vi wr => ∃ m : Nat, vi = .int .i64 (m : Int) ∧ m ≤ xa.n ∧ RowA wr v (ar.take m) ∧ (∀ g, v.ownBlock = some g → H ≤ g) ∧ H ≤ wr.heap.size ∧ Blk Q 34 (RV x0 x1 p0 p1 xa cn t.dn t.wr) wr ∧ Blk (Q + 1) 34 RZ wr ∧ Below w.heap.size w wr) (fun _ vi _ => xa.n - (intOf vi).toNat)
  case atStart => exact ⟨0, rfl, by omega, RowK.nil _ _ _, (fun g hg => by cases hg), by omega, D3, Z3, W3⟩
  case round =>
    clear D3 Z3 W3
    obtain ⟨m, rfl, hm, hrow, hob, hHz, D5, Z5, W5⟩ := hrel
    have c4 := D5.cell 4 _ rfl
    have hrl : (ar.take m).length ≤ 64 := by have := XN.out; rw [List.length_take]; omega
    have ne : ∀ G, G < H → (fun g => u8.ownBlock = some g) G → False := fun G hG e => by have := hob G e; omega
    by_cases hlt : (m : Int) < (xa.n : Int)
    · obtain ⟨p, hp⟩ : ∃ p, ar[m]? = some p := ⟨_, List.getElem?_eq_getElem (by have := XN.out; omega)⟩
      obtain ⟨g, hg, hc⟩ := AC.out m p hp
      obtain ⟨q1, q2⟩ := hc wr W5
      rw [hg] at c4
      have CT : Hid (ar.take (m + 1) = ar.take m ++ [(p.1, p.2)]) := by
        show _ = _
        rw [List.take_add_one, hp]; rfl
      clear hc
      go_wp2_with (at_builtin; refine wpList_pushA rfl (.tmp 37) (.tmp 43) rfl _ (ar.take m) p.1 p.2 rfl hrow rfl hrl ?_; intro v' w6 hrow' hgr hob')
      go_roundw
      case rel =>
        refine ⟨m + 1, by go_num, by omega, by rw [CT.out]; exact hrow', fun g hg => ?_, Nat.le_trans hHz hgr.size, D5.kp (Kp.of_grown hgr) (ne _ (by omega)), Z5.kp (Kp.of_grown hgr) (ne _ (by omega)), ?_⟩
        · rcases hob' g hg with h | h
          · exact hob g h
          · omega
        · refine ⟨hgr.os.trans W5.os, hgr.tape.trans W5.tape, hgr.output.trans W5.output, Nat.le_trans W5.size hgr.size, fun i hi => (hgr.block i (Nat.lt_of_lt_of_le hi W5.size) (fun e => ?_)).trans (W5.block i hi)⟩
          have := hob i e.symm
          have := wH.out
          omega
      case measure => simp [intOf]; omega
    · obtain rfl : m = xa.n := by omega
      have HR : Hid (ar.take xa.n = ar) := List.take_of_length_le (by have := XN.out; omega)
      rw [HR.out] at hrow hrl
      have f4 := D5.fz 4
      have W5H : Hid (Below w.heap.size w wr) := W5
      go_upto_region 11 with (at_builtin; refine wpList_pushA rfl (.tmp 45) (.tmp 49) rfl _ ar a k rfl hrow rfl hrl ?_; intro v' w6 hrow' hgr hob'; obtain ⟨ya, hya⟩ := rowA_sl hrow'; subst hya; have D6 := D5.kp (Kp.of_grown hgr) (ne _ (by omega)); have c4 := D6.cell 4 _ rfl; have f4 := D6.fz 4)
      have Z6 := Z5.kp (Kp.of_grown hgr) (ne _ (by omega))
      have gs := setCell_grown w6 Q 4 (Value.slice ya.a ya.n ya.c)
      have D7 : Blk Q 34 (RV x0 x1 p0 p1 ya cn t.dn t.wr) (w6.setCell ⟨Q, 4, none⟩ (Value.slice ya.a ya.n ya.c)) := Blk.set (i := 4) D6 (Value.slice ya.a ya.n ya.c)
      have Z7 := Z6.grown gs (by omega)
      have W6 : Below w.heap.size w w6 := by
        refine ⟨hgr.os.trans W5.os, hgr.tape.trans W5.tape, hgr.output.trans W5.output, Nat.le_trans W5.size hgr.size, fun i hi => (hgr.block i (Nat.lt_of_lt_of_le hi W5.size) (fun e => ?_)).trans (W5.block i hi)⟩
        have := hob i e.symm
        have := wH.out
        omega
      have W7 := grownBy_to_below W6 gs (Nat.le_of_eq HQ.out)
      have hyb : ∀ g, ya.v.ownBlock = some g → H ≤ g := fun g hg => by
        rcases hob' g hg with h | h
        · exact hob g h
        · omega
      have ry := RowK.kp hrow' (Kp.of_grown gs) (fun g hg e => by have := hyb g hg; injection e with e; omega)
      have V7 := HV.out _ W7
      have ylt : ∀ g, ya.v.ownBlock = some g → g < (w6.setCell ⟨Q, 4, none⟩ (Value.slice ya.a ya.n ya.c)).heap.size := fun g hg => (World.ownsRow.lt ry g hg).2
      have X7 : Hid (∃ T', RfV T' { t with q := t.q ++ [(a, k)] } x0 x1 p0 p1 ya cn (w6.setCell ⟨Q, 4, none⟩ (Value.slice ya.a ya.n ya.c)) ∧ (∀ g, T' g → T g ∨ w.heap.size ≤ g) ∧ Below w.heap.size w (w6.setCell ⟨Q, 4, none⟩ (Value.slice ya.a ya.n ya.c)) ∧ ¬ T' (Q + 1)) := by
        refine ⟨fun g => T g ∨ ya.v.ownBlock = some g, ⟨V7.d0, V7.d1, V7.q0, V7.q1, ⟨ar ++ [(a, k)], ry, cnt_arm CA.out a k HB.out⟩, fun g hg => hg.elim (V7.s g) (ylt g), fun g hg => .inl (V7.t0 g hg), fun g hg => .inl (V7.t1 g hg), fun g hg => .inl (V7.t2 g hg), fun g hg => .inl (V7.t3 g hg), fun g hg => .inr hg⟩, fun g hg => hg.imp id (fun h => by have := hyb g h; have := wH.out; omega), W7, fun hx => hx.elim NT.out.1 (fun h => by have := hyb _ h; omega)⟩
      clear D5 Z5 W5 D6 Z6 W6 gs hrow hrow' hgr hob hob' ry V7 ylt hyb ne HV AC
      generalize w6.setCell ⟨Q, 4, none⟩ (Value.slice ya.a ya.n ya.c) = w7 at *
      clear c4 f4
      obtain ⟨b9, g9⟩ := Blk.eight Z7 (Value.slice x0.a x0.n x0.c) (Value.slice x1.a x1.n x1.c) (Value.slice p0.a p0.n p0.c) (Value.slice p1.a p1.n p1.c) (Value.slice ya.a ya.n ya.c) (Value.int .i64 (cn)) (Value.bool (t.dn)) (Value.int .i64 (t.wr))
      have B9 : Hid (Blk _ _ _ _) := b9
      have R9 : Hid (RfNew T w _ _ _ _ _ _ _ _) := RfNew.grown (G := Q + 1) X7.out g9 (by have := HQ.out; omega)
      have l0 := D7.cell 0 _ rfl
      have l1 := D7.cell 1 _ rfl
      have l2 := D7.cell 2 _ rfl
      have l3 := D7.cell 3 _ rfl
      have l4 := D7.cell 4 _ rfl
      have l5 := D7.cell 5 _ rfl
      have l6 := D7.cell 6 _ rfl
      have l7 := D7.cell 7 _ rfl
      have m0 := Z7.cell 0 _ rfl
      have m1 := Z7.cell 1 _ rfl
      have m2 := Z7.cell 2 _ rfl
      have m3 := Z7.cell 3 _ rfl
      have m4 := Z7.cell 4 _ rfl
      have m5 := Z7.cell 5 _ rfl
      have m6 := Z7.cell 6 _ rfl
      have m7 := Z7.cell 7 _ rfl
      have mf0 := Z7.fz 0
      have mf1 := Z7.fz 1
      have mf2 := Z7.fz 2
      have mf3 := Z7.fz 3
      have mf4 := Z7.fz 4
      have mf5 := Z7.fz 5
      have mf6 := Z7.fz 6
      have mf7 := Z7.fz 7
      clear b9 g9
      go_wp2_with fail
      generalize (((((((w7.setCell ⟨Q + 1, 0, none⟩ (Value.slice x0.a x0.n x0.c)).setCell ⟨Q + 1, 1, none⟩ (Value.slice x1.a x1.n x1.c)).setCell ⟨Q + 1, 2, none⟩ (Value.slice p0.a p0.n p0.c)).setCell ⟨Q + 1, 3, none⟩ (Value.slice p1.a p1.n p1.c)).setCell ⟨Q + 1, 4, none⟩ (Value.slice ya.a ya.n ya.c)).setCell ⟨Q + 1, 5, none⟩ (Value.int .i64 (cn))).setCell ⟨Q + 1, 6, none⟩ (Value.bool (t.dn))).setCell ⟨Q + 1, 7, none⟩ (Value.int .i64 (t.wr)) = V9 at *
      exact bodyPost_cell_tmp rfl rfl (Q + 1) _ _ _ _ rfl B9.out Try.underlying34 rfl (by kernel_rfl) ⟨ya, rfl, R9.out⟩
end Go.Proofs.Ytiefnomldfhhnaa
