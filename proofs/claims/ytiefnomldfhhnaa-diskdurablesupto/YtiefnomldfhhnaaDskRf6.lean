/-
  Ours: the reference's Append.
-/
import Derived.Test.YtiefnomldfhhnaaDskRf5
import Derived.Deep.CutRange
namespace Go.Proofs.Ytiefnomldfhhnaa
open Go.RowKit

set_option maxRecDepth 100000 in
set_option maxHeartbeats 6000000 in
theorem rappend_at (T : Nat → Prop) (t : Dk) (x0 x1 p0 p1 xa : Sl) (cn : Int) (w : World) (h : RfV T t x0 x1 p0 p1 xa cn w) (ok : t.Ok) (hw : 0 ≤ t.wr ∧ t.wr < 4611686018427387904) (n : Int) (ds : List Nat) (v : Sl) (hd : RdB w v.v ds) (hl : ds.length ≤ 100000000) :
    Calls Try.prog 27 #[.agg (RV x0 x1 p0 p1 xa cn t.dn t.wr).toArray, .int .i64 n, .slice v.a v.n v.c] w fun e w' => ∃ y0 y1 q0 q1 ya cm, e = .returned (.tuple #[.agg (RV y0 y1 q0 q1 ya cm (t.append n ds).1.dn (t.append n ds).1.wr).toArray, .int .i64 (t.append n ds).2]) ∧ RfNew T w (t.append n ds).1 y0 y1 q0 q1 ya cm w' := by
  obtain ⟨du, hdu⟩ : ∃ d, (if n = 0 then x0 else x1) = d := ⟨_, rfl⟩
  obtain ⟨pe, hpe⟩ : ∃ d, (if n = 0 then p0 else p1) = d := ⟨_, rfl⟩
  have VN : Hid (v.n = ds.length) := by show _ = _; obtain ⟨_, _, e, _, _⟩ := hd.len; injection e with e1 e2; rw [e2, List.length_map]
  have HVD : Hid (∀ w', Below w.heap.size w w' → RdB w' (.slice v.a v.n v.c) ds) := fun w' hb => Rd.later hd hb
  obtain ⟨res, hres⟩ : ∃ r, t.append n ds = r := ⟨_, rfl⟩
  rw [hres]
  have HRES : Hid (t.append n ds = res) := hres
  clear hres hd
  have W2 := below2 w (RV x0 x1 p0 p1 xa cn t.dn t.wr) RZ 34 34
  have D2 := blk1 w (RV x0 x1 p0 p1 xa cn t.dn t.wr) RZ 34 34
  have Z2 := blk2 w (RV x0 x1 p0 p1 xa cn t.dn t.wr) RZ 34 34
  have RF : Hid (∀ w', Calls Try.prog 45 #[.agg (RV x0 x1 p0 p1 xa cn t.dn t.wr).toArray, .int .i64 n] w' fun e w'' => e = .returned (.int .i64 (t.no n)) ∧ Below w'.heap.size w' w'') := fun w' => by unfold Dk.no; exact rrefused_at x0 x1 p0 p1 xa cn t.dn t.wr n w'
  have DU : Hid (∀ w', Calls Try.prog 47 #[.agg (RV x0 x1 p0 p1 xa cn t.dn t.wr).toArray, .int .i64 n] w' fun e w'' => e = .returned (.slice du.a du.n du.c) ∧ Below w'.heap.size w' w'') := fun w' => by have := rdurable_at x0 x1 p0 p1 xa cn t.dn t.wr n w'; rw [hdu] at this; exact this
  have PE : Hid (∀ w', Calls Try.prog 48 #[.agg (RV x0 x1 p0 p1 xa cn t.dn t.wr).toArray, .int .i64 n] w' fun e w'' => e = .returned (.slice pe.a pe.n pe.c) ∧ Below w'.heap.size w' w'') := fun w' => by have := rpending_at x0 x1 p0 p1 xa cn t.dn t.wr n w'; rw [hpe] at this; exact this
  have JN : Hid (∀ (u v : Value) (xs bs : List Nat) w', xs.length ≤ 1000000000 → bs.length ≤ 1000000000 → RdB w' u xs → RdB w' v bs → Calls Try.prog 46 #[u, v] w' (NewB w' (xs ++ bs))) := fun u v xs bs w' h1 h2 h3 h4 => rjoined_at xs bs u v w' h1 h2 h3 h4
  have HDU : Hid ((if n = 0 then x0 else x1) = du) := hdu
  have HV : Hid (∀ w', Below w.heap.size w w' → RfV T t x0 x1 p0 p1 xa cn w') := fun w' hb => h.below hb
  have QT : Hid (∀ g, T g → g < w.heap.size) := h.s
  go_enter Try.func27, Try.ntmps27
  go_upto_region 1 with fail
  generalize (w.alloc (.cells (RV x0 x1 p0 p1 xa cn t.dn t.wr).toArray 34)).alloc (.cells RZ.toArray 34) = w2 at *
  obtain ⟨Q, hQ⟩ : ∃ Q, w.heap.size = Q := ⟨_, rfl⟩
  rw [hQ] at D2 Z2 ⊢
  have HQ : Hid (w.heap.size = Q) := hQ
  clear hQ h
  have c0 := D2.cell 0 _ rfl
  have c1 := D2.cell 1 _ rfl
  have c2 := D2.cell 2 _ rfl
  have c3 := D2.cell 3 _ rfl
  have c4 := D2.cell 4 _ rfl
  have c5 := D2.cell 5 _ rfl
  have c6 := D2.cell 6 _ rfl
  have c7 := D2.cell 7 _ rfl
  go_wp2_with fail
  refine (RF.out _).mono ?_
  rintro e w3 ⟨rfl, b3⟩
  have D3 := D2.below b3
  have Z3 := Z2.below b3
  have W3 := below_trans W2 b3
  clear D2 Z2 W2 b3 RF c0 c1 c2 c3 c4 c5 c6 c7
  have NT : Hid (¬ T (Q + 1) ∧ ¬ T Q) := ⟨fun hx => by have := QT.out _ hx; have := HQ.out; omega, fun hx => by have := QT.out _ hx; have := HQ.out; omega⟩
  by_cases hno : t.no n ≠ 0
  · have g1 : (t.no n != 0) = true := bne_iff_ne.2 hno
    have er : res = (t, t.no n) := by rw [← HRES.out]; unfold Dk.append; rw [if_pos hno]
    subst er
    clear JN DU PE hno HVD
    obtain ⟨b9, g9⟩ := Blk.eight Z3 (Value.slice x0.a x0.n x0.c) (Value.slice x1.a x1.n x1.c) (Value.slice p0.a p0.n p0.c) (Value.slice p1.a p1.n p1.c) (Value.slice xa.a xa.n xa.c) (Value.int .i64 (cn)) (Value.bool (t.dn)) (Value.int .i64 (t.wr))
    have B9 : Hid (Blk _ _ _ _) := b9
    have R9 : Hid (RfNew T w _ _ _ _ _ _ _ _) := RfNew.grown (G := Q + 1) ⟨T, HV.out _ W3, fun _ h => .inl h, W3, NT.out.1⟩ g9 (by have := HQ.out; omega)
    have l0 := D3.cell 0 _ rfl
    have l1 := D3.cell 1 _ rfl
    have l2 := D3.cell 2 _ rfl
    have l3 := D3.cell 3 _ rfl
    have l4 := D3.cell 4 _ rfl
    have l5 := D3.cell 5 _ rfl
    have l6 := D3.cell 6 _ rfl
    have l7 := D3.cell 7 _ rfl
    have m0 := Z3.cell 0 _ rfl
    have m1 := Z3.cell 1 _ rfl
    have m2 := Z3.cell 2 _ rfl
    have m3 := Z3.cell 3 _ rfl
    have m4 := Z3.cell 4 _ rfl
    have m5 := Z3.cell 5 _ rfl
    have m6 := Z3.cell 6 _ rfl
    have m7 := Z3.cell 7 _ rfl
    have mf0 := Z3.fz 0
    have mf1 := Z3.fz 1
    have mf2 := Z3.fz 2
    have mf3 := Z3.fz 3
    have mf4 := Z3.fz 4
    have mf5 := Z3.fz 5
    have mf6 := Z3.fz 6
    have mf7 := Z3.fz 7
    clear b9 g9
    go_wp2_with fail
    generalize (((((((w3.setCell ⟨Q + 1, 0, none⟩ (Value.slice x0.a x0.n x0.c)).setCell ⟨Q + 1, 1, none⟩ (Value.slice x1.a x1.n x1.c)).setCell ⟨Q + 1, 2, none⟩ (Value.slice p0.a p0.n p0.c)).setCell ⟨Q + 1, 3, none⟩ (Value.slice p1.a p1.n p1.c)).setCell ⟨Q + 1, 4, none⟩ (Value.slice xa.a xa.n xa.c)).setCell ⟨Q + 1, 5, none⟩ (Value.int .i64 (cn))).setCell ⟨Q + 1, 6, none⟩ (Value.bool (t.dn))).setCell ⟨Q + 1, 7, none⟩ (Value.int .i64 (t.wr)) = V9 at *
    exact bodyPost_cell_tmp rfl rfl (Q + 1) _ _ _ _ rfl B9.out Try.underlying34 rfl (by kernel_rfl) ⟨x0, x1, p0, p1, xa, cn, rfl, R9.out⟩
  have hn := (no_zero hno).1
  have HUP : Hid (t.dn = false) := (no_zero hno).2
  have e0 : t.no n = 0 := by by_cases hx : t.no n = 0
                             · exact hx
                             · exact absurd hx hno
  rw [e0]
  have RR := fb_row (HV.out w3 W3) hn
  rw [hdu, hpe] at RR
  have DN1 : Hid (du.n = ((t.fb n).take (t.fd n)).length) := by show _ = _; obtain ⟨_, _, e, _, _⟩ := RR.1.rd.len; injection e with e1 e2; rw [e2, List.length_map]
  have PN1 : Hid (pe.n = ((t.fb n).drop (t.fd n)).length) := by show _ = _; obtain ⟨_, _, e, _, _⟩ := RR.2.rd.len; injection e with e1 e2; rw [e2, List.length_map]
  have fl : (t.fb n).length ≤ 16777216 := by unfold Dk.fb; split; exact ok.l0; exact ok.l1
  have fd := ok_fd ok n
  have sum : Hid ((du.n : Int) + (pe.n : Int) = ((t.fb n).length : Int)) := by show _ = _; rw [DN1.out, PN1.out, List.length_take, List.length_drop]; omega
  have dub : du.n ≤ 16777216 ∧ pe.n ≤ 16777216 ∧ v.n ≤ 100000000 := by have := sum.out; have := VN.out; omega
  have HRR : Hid (∀ w', Below w3.heap.size w3 w' → RdB w' (.slice du.a du.n du.c) ((t.fb n).take (t.fd n)) ∧ RdB w' (.slice pe.a pe.n pe.c) ((t.fb n).drop (t.fd n))) := fun w' hb => ⟨Rd.later RR.1.rd hb, Rd.later RR.2.rd hb⟩
  have HC3 : Hid (∀ w', Below w3.heap.size w3 w' → w'.cell? ⟨Q, 0, none⟩ = some (Value.slice x0.a x0.n x0.c) ∧ w'.cell? ⟨Q, 1, none⟩ = some (Value.slice x1.a x1.n x1.c) ∧ w'.cell? ⟨Q, 2, none⟩ = some (Value.slice p0.a p0.n p0.c) ∧ w'.cell? ⟨Q, 3, none⟩ = some (Value.slice p1.a p1.n p1.c) ∧ w'.cell? ⟨Q, 4, none⟩ = some (Value.slice xa.a xa.n xa.c) ∧ w'.cell? ⟨Q, 5, none⟩ = some (Value.int .i64 (cn)) ∧ w'.cell? ⟨Q, 6, none⟩ = some (Value.bool (t.dn)) ∧ w'.cell? ⟨Q, 7, none⟩ = some (Value.int .i64 (t.wr))) := fun w' hb => by
    have D := D3.below hb
    exact ⟨D.cell 0 _ rfl, D.cell 1 _ rfl, D.cell 2 _ rfl, D.cell 3 _ rfl, D.cell 4 _ rfl, D.cell 5 _ rfl, D.cell 6 _ rfl, D.cell 7 _ rfl⟩
  obtain ⟨c0, c1, c2, c3, c4, c5, c6, c7⟩ := HC3.out w3 (Below.refl _ _)
  have FR : Below w3.heap.size w3 w3 := Below.refl _ _
  clear RR e0 hno hdu hpe
  go_upto_region 4 with fail
  go_cut [8, 29] from 0 to 0 (fun v8 v29 wx => v8 = .int .i64 0 ∧ v29 = .bool (decide (16777216 < (t.fb n).length + ds.length)) ∧ Below w3.heap.size w3 wx)
  case first =>
    go_region_held3 (fun w' => w'.cell? ⟨Q, 0, none⟩ = some (Value.slice x0.a x0.n x0.c) ∧ w'.cell? ⟨Q, 1, none⟩ = some (Value.slice x1.a x1.n x1.c) ∧ w'.cell? ⟨Q, 2, none⟩ = some (Value.slice p0.a p0.n p0.c) ∧ w'.cell? ⟨Q, 3, none⟩ = some (Value.slice p1.a p1.n p1.c) ∧ w'.cell? ⟨Q, 4, none⟩ = some (Value.slice xa.a xa.n xa.c) ∧ w'.cell? ⟨Q, 5, none⟩ = some (Value.int .i64 (cn)) ∧ w'.cell? ⟨Q, 6, none⟩ = some (Value.bool (t.dn)) ∧ w'.cell? ⟨Q, 7, none⟩ = some (Value.int .i64 (t.wr))) (first | exact ⟨by assumption, by assumption, by assumption, by assumption, by assumption, by assumption, by assumption, by assumption⟩ | go_keep)
      ((first
      | (go_at_call 47; refine (DU.out _).mono ?_; rintro e wa ⟨rfl, ba⟩; have FA : Below w3.heap.size w3 wa := (by first | exact below_trans FR ba | exact below_trans (below_drewN FR 1) ba); obtain ⟨i0, i1, i2, i3, i4, i5, i6, i7⟩ := HC3.out _ FA)
      | (go_at_call 48; refine (PE.out _).mono ?_; rintro e wb ⟨rfl, bb⟩; have FB : Below w3.heap.size w3 wb := (by first | exact below_trans FA bb | exact below_trans (below_drewN FA 1) bb); obtain ⟨j0, j1, j2, j3, j4, j5, j6, j7⟩ := HC3.out _ FB)
      | fail))
    go_wp2_with fail
    go_meet
    refine ⟨rfl, congrArg Value.bool (decide_eq_decide.2 ?_), FB⟩
    have w1 : IntKind.i64.wrap ((du.n : Int) + (pe.n : Int)) = (du.n : Int) + (pe.n : Int) := wrap_id _ (by omega) (by omega)
    have w2 : IntKind.i64.wrap ((du.n : Int) + (pe.n : Int) + (v.n : Int)) = (du.n : Int) + (pe.n : Int) + (v.n : Int) := wrap_id _ (by omega) (by omega)
    rw [w1, w2]
    have := sum.out
    have := VN.out
    omega
  case rest =>
  obtain ⟨rfl, rfl, F4⟩ := hcut
  obtain ⟨w4, hw4⟩ : ∃ y, y = wc := ⟨_, rfl⟩
  subst hw4
  have D4 := D3.below F4
  have Z4 := Z3.below F4
  have W4 := below_trans W3 F4
  clear c0 c1 c2 c3 c4 c5 c6 c7 FR
  by_cases hfull : 16777216 < (t.fb n).length + ds.length
  · have dd : decide (16777216 < (t.fb n).length + ds.length) = true := decide_eq_true hfull
    rw [dd]
    have er : res = (t, 52) := by rw [← HRES.out]; unfold Dk.append; rw [if_neg (fun hx => hx (by unfold Dk.no; rw [if_pos hn, HUP.out]; rfl)), if_pos hfull]
    subst er
    clear JN DU PE HVD HC3 HRR D3 Z3
    obtain ⟨b9, g9⟩ := Blk.eight Z4 (Value.slice x0.a x0.n x0.c) (Value.slice x1.a x1.n x1.c) (Value.slice p0.a p0.n p0.c) (Value.slice p1.a p1.n p1.c) (Value.slice xa.a xa.n xa.c) (Value.int .i64 (cn)) (Value.bool (t.dn)) (Value.int .i64 (t.wr))
    have B9 : Hid (Blk _ _ _ _) := b9
    have R9 : Hid (RfNew T w _ _ _ _ _ _ _ _) := RfNew.grown (G := Q + 1) ⟨T, HV.out _ W4, fun _ h => .inl h, W4, NT.out.1⟩ g9 (by have := HQ.out; omega)
    have l0 := D4.cell 0 _ rfl
    have l1 := D4.cell 1 _ rfl
    have l2 := D4.cell 2 _ rfl
    have l3 := D4.cell 3 _ rfl
    have l4 := D4.cell 4 _ rfl
    have l5 := D4.cell 5 _ rfl
    have l6 := D4.cell 6 _ rfl
    have l7 := D4.cell 7 _ rfl
    have m0 := Z4.cell 0 _ rfl
    have m1 := Z4.cell 1 _ rfl
    have m2 := Z4.cell 2 _ rfl
    have m3 := Z4.cell 3 _ rfl
    have m4 := Z4.cell 4 _ rfl
    have m5 := Z4.cell 5 _ rfl
    have m6 := Z4.cell 6 _ rfl
    have m7 := Z4.cell 7 _ rfl
    have mf0 := Z4.fz 0
    have mf1 := Z4.fz 1
    have mf2 := Z4.fz 2
    have mf3 := Z4.fz 3
    have mf4 := Z4.fz 4
    have mf5 := Z4.fz 5
    have mf6 := Z4.fz 6
    have mf7 := Z4.fz 7
    clear b9 g9
    go_wp2_with fail
    generalize (((((((w4.setCell ⟨Q + 1, 0, none⟩ (Value.slice x0.a x0.n x0.c)).setCell ⟨Q + 1, 1, none⟩ (Value.slice x1.a x1.n x1.c)).setCell ⟨Q + 1, 2, none⟩ (Value.slice p0.a p0.n p0.c)).setCell ⟨Q + 1, 3, none⟩ (Value.slice p1.a p1.n p1.c)).setCell ⟨Q + 1, 4, none⟩ (Value.slice xa.a xa.n xa.c)).setCell ⟨Q + 1, 5, none⟩ (Value.int .i64 (cn))).setCell ⟨Q + 1, 6, none⟩ (Value.bool (t.dn))).setCell ⟨Q + 1, 7, none⟩ (Value.int .i64 (t.wr)) = V9 at *
    exact bodyPost_cell_tmp rfl rfl (Q + 1) _ _ _ _ rfl B9.out Try.underlying34 rfl (by kernel_rfl) ⟨x0, x1, p0, p1, xa, cn, rfl, R9.out⟩
  have dd : decide (16777216 < (t.fb n).length + ds.length) = false := decide_eq_false hfull
  rw [dd]
  obtain ⟨t1, ht1⟩ : ∃ t1, t.put n (t.fb n ++ ds) (t.fd n) = t1 := ⟨_, rfl⟩
  have er : t1.write = res := by rw [← HRES.out]; unfold Dk.append; rw [if_neg (fun hx => hx (by unfold Dk.no; rw [if_pos hn, HUP.out]; rfl)), if_neg hfull, ht1]
  have t1d := put_dn t n (t.fb n ++ ds) (t.fd n)
  rw [ht1] at t1d
  have ok1 : t1.Ok := by rw [← ht1]; exact put_ok ok hn (by rw [List.length_append]; omega) (by rw [List.length_append]; omega)
  have WT : Hid (∀ (s o : Sl), ∃ X0 X1 P0 P1 : Sl, Hid ((if n = 0 then s else x0) = X0 ∧ (if n = 0 then x1 else s) = X1 ∧ (if n = 0 then o else p0) = P0 ∧ (if n = 0 then p1 else o) = P1) ∧ ∀ w', Calls Try.prog 49 #[.agg (RV x0 x1 p0 p1 xa cn t.dn t.wr).toArray, .int .i64 n, .slice s.a s.n s.c, .slice o.a o.n o.c] w' fun e w'' => e = .returned (.agg (RV X0 X1 P0 P1 xa cn t.dn t.wr).toArray) ∧ Below w'.heap.size w' w'') := fun s o => ⟨_, _, _, _, ⟨rfl, rfl, rfl, rfl⟩, fun w' => rwith_at x0 x1 p0 p1 xa cn t.dn t.wr n s o w'⟩
  have PT : Hid (∀ (o X0 X1 P0 P1 : Sl) (w' : World) (B : Nat), Below w4.heap.size w4 w' → w4.heap.size ≤ B → RowB 5 B w' o.v ((t.fb n).drop (t.fd n) ++ ds) → ((if n = 0 then du else x0) = X0 ∧ (if n = 0 then x1 else du) = X1 ∧ (if n = 0 then o else p0) = P0 ∧ (if n = 0 then p1 else o) = P1) → RfNew T w4 t1 X0 X1 P0 P1 xa cn w') := fun o X0 X1 P0 P1 w' B hb hB ho e => by
    rw [← ht1]; exact rf_app hn (HV.out w4 W4) hb hB ho ok HDU.out e
  have T1D : Hid (t1.dn = t.dn ∧ t1.wr = t.wr) := t1d
  have ER : Hid (t1.write = res) := er
  have HW1 : Hid (0 ≤ t1.wr ∧ t1.wr < 4611686018427387904) := by rw [t1d.2]; exact hw
  clear t1d er ht1 D3 Z3 dd
  obtain ⟨c0, c1, c2, c3, c4, c5, c6, c7⟩ := HC3.out w4 F4
  have z0 := D4.fz 0
  have z1 := D4.fz 1
  have z2 := D4.fz 2
  have z3 := D4.fz 3
  have z4 := D4.fz 4
  have z5 := D4.fz 5
  have z6 := D4.fz 6
  have z7 := D4.fz 7
  have l1 : ((t.fb n).drop (t.fd n)).length ≤ 1000000000 := by rw [List.length_drop]; omega
  have l2 : ds.length ≤ 1000000000 := by omega
  have HC4 : Hid (∀ w', Below w4.heap.size w4 w' → (w'.cell? ⟨Q, 0, none⟩ = some (Value.slice x0.a x0.n x0.c) ∧ w'.cell? ⟨Q, 1, none⟩ = some (Value.slice x1.a x1.n x1.c) ∧ w'.cell? ⟨Q, 2, none⟩ = some (Value.slice p0.a p0.n p0.c) ∧ w'.cell? ⟨Q, 3, none⟩ = some (Value.slice p1.a p1.n p1.c) ∧ w'.cell? ⟨Q, 4, none⟩ = some (Value.slice xa.a xa.n xa.c) ∧ w'.cell? ⟨Q, 5, none⟩ = some (Value.int .i64 (cn)) ∧ w'.cell? ⟨Q, 6, none⟩ = some (Value.bool (t.dn)) ∧ w'.cell? ⟨Q, 7, none⟩ = some (Value.int .i64 (t.wr))) ∧ w'.frozen? ⟨Q, 0, none⟩ = false ∧ w'.frozen? ⟨Q, 1, none⟩ = false ∧ w'.frozen? ⟨Q, 2, none⟩ = false ∧ w'.frozen? ⟨Q, 3, none⟩ = false ∧ w'.frozen? ⟨Q, 4, none⟩ = false ∧ w'.frozen? ⟨Q, 5, none⟩ = false ∧ w'.frozen? ⟨Q, 6, none⟩ = false ∧ w'.frozen? ⟨Q, 7, none⟩ = false) := fun w' hb => by
    have D := D4.below hb
    exact ⟨⟨D.cell 0 _ rfl, D.cell 1 _ rfl, D.cell 2 _ rfl, D.cell 3 _ rfl, D.cell 4 _ rfl, D.cell 5 _ rfl, D.cell 6 _ rfl, D.cell 7 _ rfl⟩, D.fz 0, D.fz 1, D.fz 2, D.fz 3, D.fz 4, D.fz 5, D.fz 6, D.fz 7⟩
  have FR : Below w4.heap.size w4 w4 := Below.refl _ _
  go_upto_region 6 with fail
  go_cut [8] from 0 to 0 (fun v8 wx => v8 = .int .i64 0 ∧ ∃ X0 X1 P0 P1 T1, RfV T1 t1 X0 X1 P0 P1 xa cn wx ∧ (∀ g, T1 g → T g ∨ w4.heap.size ≤ g) ∧ Blk Q 34 (RV X0 X1 P0 P1 xa cn t.dn t.wr) wx ∧ Blk (Q + 1) 34 RZ wx ∧ Below w.heap.size w wx)
  case first =>
    clear HRES ER hfull fl fd sum dub DN1 PN1 VN HUP HW1 T1D ok hw ok1 W3 HC3 hl HDU QT HV
    go_region_with (first
      | (go_at_call 47; refine (DU.out _).mono ?_; rintro e wa ⟨rfl, ba⟩; have FA : Below w4.heap.size w4 wa := (by first | exact below_trans FR ba | exact below_trans (below_drewN FR 1) ba | exact below_trans (below_drewN FR 2) ba); obtain ⟨⟨i0, i1, i2, i3, i4, i5, i6, i7⟩, _⟩ := HC4.out _ FA)
      | (go_at_call 48; refine (PE.out _).mono ?_; rintro e wb ⟨rfl, bb⟩; have FB : Below w4.heap.size w4 wb := (by first | exact below_trans FA bb | exact below_trans (below_drewN FA 1) bb); obtain ⟨⟨j0, j1, j2, j3, j4, j5, j6, j7⟩, _⟩ := HC4.out _ FB)
      | (go_at_call 46; refine (JN.out _ _ _ _ _ l1 l2 ((HRR.out _ (by first | exact below_trans F4 FB | exact below_drewN (below_trans F4 FB) 1)).2) (HVD.out _ (by first | exact below_trans W4 FB | exact below_drewN (below_trans W4 FB) 1))).mono ?_; rintro e wd ⟨vd, rfl, rd, bd⟩; obtain ⟨sd, ed, nd⟩ := sl_of rd; subst ed; clear nd; have bf : Below wb.heap.size wb wd := (by first | exact bd | exact below_dr (n := 1) bd); have FD := below_trans FB bf; obtain ⟨⟨k0, k1, k2, k3, k4, k5, k6, k7⟩, _⟩ := HC4.out _ FD; obtain ⟨X0, X1, P0, P1, hE, hC⟩ := WT.out du sd)
      | (go_at_call 49; refine (hC _).mono ?_; rintro e we ⟨rfl, be⟩; have bg : Below wd.heap.size wd we := (by first | exact be | exact below_dr (n := 1) be); have FE := below_trans FD bg; obtain ⟨⟨q0, q1, q2, q3, q4, q5, q6, q7⟩, y0, y1, y2, y3, y4, y5, y6, y7⟩ := HC4.out _ FE))
    all_goals
      go_wp2_with fail
      go_meet
      have RN := PT.out sd X0 X1 P0 P1 we _ FE (Nat.le_refl _) (RowV.mono (RowV.later rd bg) FB.size) hE.out
      obtain ⟨T1, v1, n1, _⟩ := RN
      have szq := Z4.lt
      obtain ⟨b5, g5⟩ := Blk.eight (D4.below FE) (Value.slice X0.a X0.n X0.c) (Value.slice X1.a X1.n X1.c) (Value.slice P0.a P0.n P0.c) (Value.slice P1.a P1.n P1.c) (Value.slice xa.a xa.n xa.c) (Value.int .i64 cn) (Value.bool t.dn) (Value.int .i64 t.wr)
      refine ⟨rfl, X0, X1, P0, P1, T1, v1.kp (Kp.of_grown g5) (fun g hg e => ?_), n1, b5, (Z4.below FE).grown g5 (by omega), grownBy_to_below (below_trans W4 FE) g5 (Nat.le_of_eq HQ.out)⟩
      injection e with e
      subst e
      rcases n1 _ hg with h | h
      · exact NT.out.2 h
      · omega
  case rest =>
  obtain ⟨rfl, X0, X1, P0, P1, T1, v1, n1, D5, Z5, W5⟩ := hcut
  obtain ⟨w5, hw5⟩ : ∃ y, y = wc := ⟨_, rfl⟩
  subst hw5
  have szq := Z4.lt
  have NT1 : Hid (¬ T1 Q ∧ ¬ T1 (Q + 1)) := ⟨fun hx => (n1 _ hx).elim NT.out.2 (fun h => by omega), fun hx => (n1 _ hx).elim NT.out.1 (fun h => by omega)⟩
  have NW : Hid (∀ g, T1 g → T g ∨ w.heap.size ≤ g) := fun g hg => (n1 g hg).imp id (fun h => Nat.le_trans W4.size h)
  obtain ⟨cm, fl, CT, CS⟩ := rcounted_at v1 ok1 HW1.out
  rw [T1D.out.1, T1D.out.2] at CT
  rw [T1D.out.2] at CS
  have CT : Hid (Calls _ _ _ _ _) := CT
  have CS : Hid _ := CS
  have V1 : Hid (RfV T1 t1 X0 X1 P0 P1 xa cn w5) := v1
  clear DU PE JN HVD HRR HC3 HC4 WT PT HDU F4 D4 Z4 W4 W3 c0 c1 c2 c3 c4 c5 c6 c7 z0 z1 z2 z3 z4 z5 z6 z7 v1 n1 FR l1 l2 sum dub DN1 PN1 VN hfull HUP HV szq fd hn
  have c0 := D5.cell 0 _ rfl
  have c1 := D5.cell 1 _ rfl
  have c2 := D5.cell 2 _ rfl
  have c3 := D5.cell 3 _ rfl
  have c4 := D5.cell 4 _ rfl
  have c5 := D5.cell 5 _ rfl
  have c6 := D5.cell 6 _ rfl
  have c7 := D5.cell 7 _ rfl
  go_wp2_with fail
  refine CT.out.mono ?_
  rintro e w6 ⟨rfl, b6⟩
  have D6 := D5.below b6
  have Z6 := Z5.below b6
  have V6 := V1.out.below b6
  have W6 := below_trans W5 b6
  obtain ⟨b7, g7⟩ := Blk.eight D6 (Value.slice X0.a X0.n X0.c) (Value.slice X1.a X1.n X1.c) (Value.slice P0.a P0.n P0.c) (Value.slice P1.a P1.n P1.c) (Value.slice xa.a xa.n xa.c) (Value.int .i64 (cm)) (Value.bool (t.dn)) (Value.int .i64 (t.wr + 1))
  have B7 : Blk Q 34 (RV X0 X1 P0 P1 xa cm t.dn (t.wr + 1)) _ := b7
  have Z7 := Z6.grown g7 (by omega)
  have V7 := V6.kp (Kp.of_grown g7) (fun g hg e => by injection e with e; subst e; exact NT1.out.1 hg)
  have W7 := grownBy_to_below W6 g7 (Nat.le_of_eq HQ.out)
  clear D5 Z5 W5 b6 V1 c0 c1 c2 c3 c4 c5 c6 c7 CT b7 g7
  have c0 := D6.cell 0 _ rfl
  have c1 := D6.cell 1 _ rfl
  have c2 := D6.cell 2 _ rfl
  have c3 := D6.cell 3 _ rfl
  have c4 := D6.cell 4 _ rfl
  have c5 := D6.cell 5 _ rfl
  have c6 := D6.cell 6 _ rfl
  have c7 := D6.cell 7 _ rfl
  have cf0 := D6.fz 0
  have cf1 := D6.fz 1
  have cf2 := D6.fz 2
  have cf3 := D6.fz 3
  have cf4 := D6.fz 4
  have cf5 := D6.fz 5
  have cf6 := D6.fz 6
  have cf7 := D6.fz 7
  go_upto_region 8 with fail
  generalize (((((((w6.setCell ⟨Q, 0, none⟩ (Value.slice X0.a X0.n X0.c)).setCell ⟨Q, 1, none⟩ (Value.slice X1.a X1.n X1.c)).setCell ⟨Q, 2, none⟩ (Value.slice P0.a P0.n P0.c)).setCell ⟨Q, 3, none⟩ (Value.slice P1.a P1.n P1.c)).setCell ⟨Q, 4, none⟩ (Value.slice xa.a xa.n xa.c)).setCell ⟨Q, 5, none⟩ (Value.int .i64 (cm))).setCell ⟨Q, 6, none⟩ (Value.bool (t.dn))).setCell ⟨Q, 7, none⟩ (Value.int .i64 (t.wr + 1)) = w7 at *
  clear c0 c1 c2 c3 c4 c5 c6 c7 cf0 cf1 cf2 cf3 cf4 cf5 cf6 cf7 D6 Z6 V6 W6
  rcases CS.out with ⟨e1, e2, e3, e4, e5, _⟩ | ⟨e1, e2, e3, e4, k, ⟨c, r, k1, k2, k3, k4⟩, j0, j1, j2, j3, j4⟩
  · subst e1
    have EQ1 : Hid (res.1.dn = t.dn ∧ res.1.wr = t.wr + 1 ∧ res.2 = 0) := by rw [← ER.out]; exact ⟨e4.trans T1D.out.1, e5, e2⟩
    have VN7 := e3 T1 w7 V7
    rw [ER.out] at VN7
    clear CS e2 e3 e4 e5 V7
    obtain ⟨b9, g9⟩ := Blk.eight Z7 (Value.slice X0.a X0.n X0.c) (Value.slice X1.a X1.n X1.c) (Value.slice P0.a P0.n P0.c) (Value.slice P1.a P1.n P1.c) (Value.slice xa.a xa.n xa.c) (Value.int .i64 (cm)) (Value.bool (t.dn)) (Value.int .i64 (t.wr + 1))
    have B9 : Hid (Blk _ _ _ _) := b9
    have R9 : Hid (RfNew T w _ _ _ _ _ _ _ _) := RfNew.grown (G := Q + 1) ⟨T1, VN7, NW.out, W7, NT1.out.2⟩ g9 (by have := HQ.out; omega)
    have l0 := B7.cell 0 _ rfl
    have l1 := B7.cell 1 _ rfl
    have l2 := B7.cell 2 _ rfl
    have l3 := B7.cell 3 _ rfl
    have l4 := B7.cell 4 _ rfl
    have l5 := B7.cell 5 _ rfl
    have l6 := B7.cell 6 _ rfl
    have l7 := B7.cell 7 _ rfl
    have m0 := Z7.cell 0 _ rfl
    have m1 := Z7.cell 1 _ rfl
    have m2 := Z7.cell 2 _ rfl
    have m3 := Z7.cell 3 _ rfl
    have m4 := Z7.cell 4 _ rfl
    have m5 := Z7.cell 5 _ rfl
    have m6 := Z7.cell 6 _ rfl
    have m7 := Z7.cell 7 _ rfl
    have mf0 := Z7.fz 0
    have mf1 := Z7.fz 1
    have mf2 := Z7.fz 2
    have mf3 := Z7.fz 3
    have mf4 := Z7.fz 4
    have mf5 := Z7.fz 5
    have mf6 := Z7.fz 6
    have mf7 := Z7.fz 7
    clear b9 g9
    go_wp2_with fail
    generalize (((((((w7.setCell ⟨Q + 1, 0, none⟩ (Value.slice X0.a X0.n X0.c)).setCell ⟨Q + 1, 1, none⟩ (Value.slice X1.a X1.n X1.c)).setCell ⟨Q + 1, 2, none⟩ (Value.slice P0.a P0.n P0.c)).setCell ⟨Q + 1, 3, none⟩ (Value.slice P1.a P1.n P1.c)).setCell ⟨Q + 1, 4, none⟩ (Value.slice xa.a xa.n xa.c)).setCell ⟨Q + 1, 5, none⟩ (Value.int .i64 (cm))).setCell ⟨Q + 1, 6, none⟩ (Value.bool (t.dn))).setCell ⟨Q + 1, 7, none⟩ (Value.int .i64 (t.wr + 1)) = V9 at *
    exact bodyPost_cell_tmp rfl rfl (Q + 1) _ _ _ _ rfl B9.out Try.underlying34 rfl (by kernel_rfl) ⟨X0, X1, P0, P1, xa, cm, by rw [EQ1.out.1, EQ1.out.2.1, EQ1.out.2.2]; rfl, R9.out⟩
  · subst e1
    have EQ1 : Hid (res.1.dn = true ∧ res.1.wr = t.wr + 1 ∧ res.2 = 51) := by rw [← ER.out]; exact ⟨e3, e4, e2⟩
    have FL : Hid (Calls _ _ _ _ _) := rfallen_at T1 t1 X0 X1 P0 P1 xa cn cm t.dn (t.wr + 1) w7 ok1 V7 c r k k1 k2 k3 k4
    have CA : Hid (∀ {T' w' w'' y0 y1 ya}, RfNew T' w' (t1.down k) y0 y1 Sl.z Sl.z ya 0 w'' → RfNew T' w' res.1 y0 y1 Sl.z Sl.z ya 0 w'') := fun h => by rw [← ER.out]; exact h.cast j0 j1 j2 j3 j4
    clear CS e2 e3 e4 j0 j1 j2 j3 j4 V7 k1 k2 k3 k4
    have l0 := B7.cell 0 _ rfl
    have l1 := B7.cell 1 _ rfl
    have l2 := B7.cell 2 _ rfl
    have l3 := B7.cell 3 _ rfl
    have l4 := B7.cell 4 _ rfl
    have l5 := B7.cell 5 _ rfl
    have l6 := B7.cell 6 _ rfl
    have l7 := B7.cell 7 _ rfl
    go_wp2_with fail
    refine FL.out.mono ?_
    rintro e w8 ⟨y0, y1, ya, rfl, R8⟩
    have R8 := CA.out R8
    obtain ⟨T8, v8, n8, b8⟩ := R8
    have Z8 := Z7.below b8
    have sz7 := Z7.lt
    have X8 : Hid (∃ T', RfV T' res.1 y0 y1 Sl.z Sl.z ya 0 w8 ∧ (∀ g, T' g → T g ∨ w.heap.size ≤ g) ∧ Below w.heap.size w w8 ∧ ¬ T' (Q + 1)) := ⟨T8, v8, fun g hg => (n8 g hg).elim (NW.out g) (fun h => .inr (Nat.le_trans W7.size h)), below_trans W7 b8, fun hx => (n8 _ hx).elim NT1.out.2 (fun h => by omega)⟩
    clear v8 n8 b8 Z7 B7 W7 FL CA l0 l1 l2 l3 l4 l5 l6 l7
    obtain ⟨b9, g9⟩ := Blk.eight Z8 (Value.slice y0.a y0.n y0.c) (Value.slice y1.a y1.n y1.c) (Value.slice none 0 0) (Value.slice none 0 0) (Value.slice ya.a ya.n ya.c) (Value.int .i64 (0)) (Value.bool (true)) (Value.int .i64 (t.wr + 1))
    have B9 : Hid (Blk _ _ _ _) := b9
    have R9 : Hid (RfNew T w _ _ _ _ _ _ _ _) := RfNew.grown (G := Q + 1) X8.out g9 (by have := HQ.out; omega)
    have m0 := Z8.cell 0 _ rfl
    have m1 := Z8.cell 1 _ rfl
    have m2 := Z8.cell 2 _ rfl
    have m3 := Z8.cell 3 _ rfl
    have m4 := Z8.cell 4 _ rfl
    have m5 := Z8.cell 5 _ rfl
    have m6 := Z8.cell 6 _ rfl
    have m7 := Z8.cell 7 _ rfl
    have mf0 := Z8.fz 0
    have mf1 := Z8.fz 1
    have mf2 := Z8.fz 2
    have mf3 := Z8.fz 3
    have mf4 := Z8.fz 4
    have mf5 := Z8.fz 5
    have mf6 := Z8.fz 6
    have mf7 := Z8.fz 7
    clear b9 g9
    go_wp2_with fail
    generalize (((((((w8.setCell ⟨Q + 1, 0, none⟩ (Value.slice y0.a y0.n y0.c)).setCell ⟨Q + 1, 1, none⟩ (Value.slice y1.a y1.n y1.c)).setCell ⟨Q + 1, 2, none⟩ (Value.slice none 0 0)).setCell ⟨Q + 1, 3, none⟩ (Value.slice none 0 0)).setCell ⟨Q + 1, 4, none⟩ (Value.slice ya.a ya.n ya.c)).setCell ⟨Q + 1, 5, none⟩ (Value.int .i64 (0))).setCell ⟨Q + 1, 6, none⟩ (Value.bool (true))).setCell ⟨Q + 1, 7, none⟩ (Value.int .i64 (t.wr + 1)) = V9 at *
    exact bodyPost_cell_tmp rfl rfl (Q + 1) _ _ _ _ rfl B9.out Try.underlying34 rfl (by kernel_rfl) ⟨y0, y1, Sl.z, Sl.z, ya, 0, by rw [EQ1.out.1, EQ1.out.2.1, EQ1.out.2.2]; rfl, R9.out⟩
end Go.Proofs.Ytiefnomldfhhnaa
