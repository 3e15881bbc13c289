/-
  Ours: the reference's Sync.
-/
import Derived.Test.YtiefnomldfhhnaaDskRf5b
import Derived.Deep.RegionHeld3
import Derived.Deep.CutRange
namespace Go.Proofs.Ytiefnomldfhhnaa
open Go.RowKit

set_option maxRecDepth 100000 in
set_option maxHeartbeats 6000000 in
theorem rsync_at (T : Nat → Prop) (t : Dk) (x0 x1 p0 p1 xa : Sl) (cn : Int) (w : World) (h : RfV T t x0 x1 p0 p1 xa cn w) (ok : t.Ok) (hw : 0 ≤ t.wr ∧ t.wr < 4611686018427387904) (n : Int) :
    Calls Try.prog 29 #[.agg (RV x0 x1 p0 p1 xa cn t.dn t.wr).toArray, .int .i64 n] w fun e w' => ∃ y0 y1 q0 q1 ya cm, e = .returned (.tuple #[.agg (RV y0 y1 q0 q1 ya cm (t.sync n).1.dn (t.sync n).1.wr).toArray, .int .i64 (t.sync n).2]) ∧ RfNew T w (t.sync n).1 y0 y1 q0 q1 ya cm w' := by
  obtain ⟨du, hdu⟩ : ∃ d, (if n = 0 then x0 else x1) = d := ⟨_, rfl⟩
  obtain ⟨pe, hpe⟩ : ∃ d, (if n = 0 then p0 else p1) = d := ⟨_, rfl⟩
  obtain ⟨res, hres⟩ : ∃ r, t.sync n = r := ⟨_, rfl⟩
  rw [hres]
  have HRES : Hid (t.sync n = res) := hres
  clear hres
  have DUG : Hid (∀ cm nw w', Calls Try.prog 47 #[.agg (RV x0 x1 p0 p1 xa cm t.dn nw).toArray, .int .i64 n] w' fun e w'' => e = .returned (.slice du.a du.n du.c) ∧ Below w'.heap.size w' w'') := fun cm nw w' => by have := rdurable_at x0 x1 p0 p1 xa cm t.dn nw n w'; rw [hdu] at this; exact this
  have PEG : Hid (∀ cm nw w', Calls Try.prog 48 #[.agg (RV x0 x1 p0 p1 xa cm t.dn nw).toArray, .int .i64 n] w' fun e w'' => e = .returned (.slice pe.a pe.n pe.c) ∧ Below w'.heap.size w' w'') := fun cm nw w' => by have := rpending_at x0 x1 p0 p1 xa cm t.dn nw n w'; rw [hpe] at this; exact this
  have WT : Hid (∀ (cm nw : Int) (s : Sl), ∃ X0 X1 P0 P1 : Sl, Hid ((if n = 0 then s else x0) = X0 ∧ (if n = 0 then x1 else s) = X1 ∧ (if n = 0 then Sl.z else p0) = P0 ∧ (if n = 0 then p1 else Sl.z) = P1) ∧ ∀ w', Calls Try.prog 49 #[.agg (RV x0 x1 p0 p1 xa cm t.dn nw).toArray, .int .i64 n, .slice s.a s.n s.c, .slice none 0 0] w' fun e w'' => e = .returned (.agg (RV X0 X1 P0 P1 xa cm t.dn nw).toArray) ∧ Below w'.heap.size w' w'') := fun cm nw s => ⟨_, _, _, _, ⟨rfl, rfl, rfl, rfl⟩, fun w' => rwith_at x0 x1 p0 p1 xa cm t.dn nw n s Sl.z w'⟩
  have W2 := below2 w (RV x0 x1 p0 p1 xa cn t.dn t.wr) RZ 34 34
  have D2 := blk1 w (RV x0 x1 p0 p1 xa cn t.dn t.wr) RZ 34 34
  have Z2 := blk2 w (RV x0 x1 p0 p1 xa cn t.dn t.wr) RZ 34 34
  have RF : Hid (∀ w', Calls Try.prog 45 #[.agg (RV x0 x1 p0 p1 xa cn t.dn t.wr).toArray, .int .i64 n] w' fun e w'' => e = .returned (.int .i64 (t.no n)) ∧ Below w'.heap.size w' w'') := fun w' => by unfold Dk.no; exact rrefused_at x0 x1 p0 p1 xa cn t.dn t.wr n w'
  have DU : Hid (∀ w', Calls Try.prog 47 #[.agg (RV x0 x1 p0 p1 xa cn t.dn t.wr).toArray, .int .i64 n] w' fun e w'' => e = .returned (.slice du.a du.n du.c) ∧ Below w'.heap.size w' w'') := fun w' => by have := rdurable_at x0 x1 p0 p1 xa cn t.dn t.wr n w'; rw [hdu] at this; exact this
  have PE : Hid (∀ w', Calls Try.prog 48 #[.agg (RV x0 x1 p0 p1 xa cn t.dn t.wr).toArray, .int .i64 n] w' fun e w'' => e = .returned (.slice pe.a pe.n pe.c) ∧ Below w'.heap.size w' w'') := fun w' => by have := rpending_at x0 x1 p0 p1 xa cn t.dn t.wr n w'; rw [hpe] at this; exact this
  have JN : Hid (∀ (u v : Value) (xs bs : List Nat) w', xs.length ≤ 1000000000 → bs.length ≤ 1000000000 → RdB w' u xs → RdB w' v bs → Calls Try.prog 46 #[u, v] w' (NewB w' (xs ++ bs))) := fun u v xs bs w' h1 h2 h3 h4 => rjoined_at xs bs u v w' h1 h2 h3 h4
  have HDU : Hid ((if n = 0 then x0 else x1) = du) := hdu
  have HV : Hid (∀ w', Below w.heap.size w w' → RfV T t x0 x1 p0 p1 xa cn w') := fun w' hb => h.below hb
  have QT : Hid (∀ g, T g → g < w.heap.size) := h.s
  go_enter Try.func29, Try.ntmps29
  go_upto_region 1 with fail
  generalize (w.alloc (.cells (RV x0 x1 p0 p1 xa cn t.dn t.wr).toArray 34)).alloc (.cells RZ.toArray 34) = w2 at *
  obtain ⟨Q, hQ⟩ : ∃ Q, w.heap.size = Q := ⟨_, rfl⟩
  rw [hQ] at D2 Z2 ⊢
  have HQ : Hid (w.heap.size = Q) := hQ
  clear hQ h
  have c0 := D2.cell 0 _ rfl
  have c1 := D2.cell 1 _ rfl
  have c2 := D2.cell 2 _ rfl
  have c3 := D2.cell 3 _ rfl
  have c4 := D2.cell 4 _ rfl
  have c5 := D2.cell 5 _ rfl
  have c6 := D2.cell 6 _ rfl
  have c7 := D2.cell 7 _ rfl
  go_wp2_with fail
  refine (RF.out _).mono ?_
  rintro e w3 ⟨rfl, b3⟩
  have D3 := D2.below b3
  have Z3 := Z2.below b3
  have W3 := below_trans W2 b3
  clear D2 Z2 W2 b3 RF c0 c1 c2 c3 c4 c5 c6 c7
  have NT : Hid (¬ T (Q + 1) ∧ ¬ T Q) := ⟨fun hx => by have := QT.out _ hx; have := HQ.out; omega, fun hx => by have := QT.out _ hx; have := HQ.out; omega⟩
  by_cases hno : t.no n ≠ 0
  · have g1 : (t.no n != 0) = true := bne_iff_ne.2 hno
    have er : res = (t, t.no n) := by rw [← HRES.out]; unfold Dk.sync; rw [if_pos hno]
    subst er
    clear JN DU PE DUG PEG WT hno
    obtain ⟨b9, g9⟩ := Blk.eight Z3 (Value.slice x0.a x0.n x0.c) (Value.slice x1.a x1.n x1.c) (Value.slice p0.a p0.n p0.c) (Value.slice p1.a p1.n p1.c) (Value.slice xa.a xa.n xa.c) (Value.int .i64 (cn)) (Value.bool (t.dn)) (Value.int .i64 (t.wr))
    have B9 : Hid (Blk _ _ _ _) := b9
    have R9 : Hid (RfNew T w _ _ _ _ _ _ _ _) := RfNew.grown (G := Q + 1) ⟨T, HV.out _ W3, fun _ h => .inl h, W3, NT.out.1⟩ g9 (by have := HQ.out; omega)
    have l0 := D3.cell 0 _ rfl
    have l1 := D3.cell 1 _ rfl
    have l2 := D3.cell 2 _ rfl
    have l3 := D3.cell 3 _ rfl
    have l4 := D3.cell 4 _ rfl
    have l5 := D3.cell 5 _ rfl
    have l6 := D3.cell 6 _ rfl
    have l7 := D3.cell 7 _ rfl
    have m0 := Z3.cell 0 _ rfl
    have m1 := Z3.cell 1 _ rfl
    have m2 := Z3.cell 2 _ rfl
    have m3 := Z3.cell 3 _ rfl
    have m4 := Z3.cell 4 _ rfl
    have m5 := Z3.cell 5 _ rfl
    have m6 := Z3.cell 6 _ rfl
    have m7 := Z3.cell 7 _ rfl
    have mf0 := Z3.fz 0
    have mf1 := Z3.fz 1
    have mf2 := Z3.fz 2
    have mf3 := Z3.fz 3
    have mf4 := Z3.fz 4
    have mf5 := Z3.fz 5
    have mf6 := Z3.fz 6
    have mf7 := Z3.fz 7
    clear b9 g9
    go_wp2_with fail
    generalize (((((((w3.setCell ⟨Q + 1, 0, none⟩ (Value.slice x0.a x0.n x0.c)).setCell ⟨Q + 1, 1, none⟩ (Value.slice x1.a x1.n x1.c)).setCell ⟨Q + 1, 2, none⟩ (Value.slice p0.a p0.n p0.c)).setCell ⟨Q + 1, 3, none⟩ (Value.slice p1.a p1.n p1.c)).setCell ⟨Q + 1, 4, none⟩ (Value.slice xa.a xa.n xa.c)).setCell ⟨Q + 1, 5, none⟩ (Value.int .i64 (cn))).setCell ⟨Q + 1, 6, none⟩ (Value.bool (t.dn))).setCell ⟨Q + 1, 7, none⟩ (Value.int .i64 (t.wr)) = V9 at *
    exact bodyPost_cell_tmp rfl rfl (Q + 1) _ _ _ _ rfl B9.out Try.underlying34 rfl (by kernel_rfl) ⟨x0, x1, p0, p1, xa, cn, rfl, R9.out⟩
  have hn := (no_zero hno).1
  have HUP : Hid (t.dn = false) := (no_zero hno).2
  have NO0 : Hid (¬ t.no n ≠ 0) := hno
  have e0 : t.no n = 0 := by by_cases hx : t.no n = 0
                             · exact hx
                             · exact absurd hx hno
  rw [e0]
  have RRH : Hid (∀ w', Below w.heap.size w w' → RdB w' (.slice du.a du.n du.c) ((t.fb n).take (t.fd n)) ∧ RdB w' (.slice pe.a pe.n pe.c) ((t.fb n).drop (t.fd n))) := fun w' hb => by
    have RR := fb_row (HV.out w' hb) hn
    rw [hdu, hpe] at RR
    exact ⟨RR.1.rd, RR.2.rd⟩
  have fl0 : (t.fb n).length ≤ 16777216 := by unfold Dk.fb; split; exact ok.l0; exact ok.l1
  have L1 : ((t.fb n).take (t.fd n)).length ≤ 1000000000 := by rw [List.length_take]; omega
  have L2 : ((t.fb n).drop (t.fd n)).length ≤ 1000000000 := by rw [List.length_drop]; omega
  clear e0 hno hdu hpe
  have SY : Hid (res = if t.write.2 ≠ 0 then t.write else (t.write.1.put n (t.write.1.fb n) (t.write.1.fb n).length, 0)) := by show _ = _; rw [← HRES.out]; unfold Dk.sync; rw [if_neg NO0.out]
  clear DU PE
  obtain ⟨cm, fl, CT, CS⟩ := rcounted_at (HV.out _ W3) ok hw
  have CT : Hid (Calls _ _ _ _ _) := CT
  have CS : Hid _ := CS
  have c0 := D3.cell 0 _ rfl
  have c1 := D3.cell 1 _ rfl
  have c2 := D3.cell 2 _ rfl
  have c3 := D3.cell 3 _ rfl
  have c4 := D3.cell 4 _ rfl
  have c5 := D3.cell 5 _ rfl
  have c6 := D3.cell 6 _ rfl
  have c7 := D3.cell 7 _ rfl
  go_wp2_with fail
  refine CT.out.mono ?_
  rintro e w6 ⟨rfl, b6⟩
  have D6 := D3.below b6
  have Z6 := Z3.below b6
  have V6 := HV.out _ (below_trans W3 b6)
  have W6 := below_trans W3 b6
  obtain ⟨b7, g7⟩ := Blk.eight D6 (Value.slice x0.a x0.n x0.c) (Value.slice x1.a x1.n x1.c) (Value.slice p0.a p0.n p0.c) (Value.slice p1.a p1.n p1.c) (Value.slice xa.a xa.n xa.c) (Value.int .i64 (cm)) (Value.bool (t.dn)) (Value.int .i64 (t.wr + 1))
  have B7 : Blk Q 34 (RV x0 x1 p0 p1 xa cm t.dn (t.wr + 1)) _ := b7
  have Z7 := Z6.grown g7 (by omega)
  have V7 := V6.kp (Kp.of_grown g7) (fun g hg e => by injection e with e; subst e; exact NT.out.2 hg)
  have W7 := grownBy_to_below W6 g7 (Nat.le_of_eq HQ.out)
  clear c0 c1 c2 c3 c4 c5 c6 c7 CT b7 g7 b6
  have c0 := D6.cell 0 _ rfl
  have c1 := D6.cell 1 _ rfl
  have c2 := D6.cell 2 _ rfl
  have c3 := D6.cell 3 _ rfl
  have c4 := D6.cell 4 _ rfl
  have c5 := D6.cell 5 _ rfl
  have c6 := D6.cell 6 _ rfl
  have c7 := D6.cell 7 _ rfl
  have cf0 := D6.fz 0
  have cf1 := D6.fz 1
  have cf2 := D6.fz 2
  have cf3 := D6.fz 3
  have cf4 := D6.fz 4
  have cf5 := D6.fz 5
  have cf6 := D6.fz 6
  have cf7 := D6.fz 7
  go_upto_region 5 with fail
  generalize (((((((w6.setCell ⟨Q, 0, none⟩ (Value.slice x0.a x0.n x0.c)).setCell ⟨Q, 1, none⟩ (Value.slice x1.a x1.n x1.c)).setCell ⟨Q, 2, none⟩ (Value.slice p0.a p0.n p0.c)).setCell ⟨Q, 3, none⟩ (Value.slice p1.a p1.n p1.c)).setCell ⟨Q, 4, none⟩ (Value.slice xa.a xa.n xa.c)).setCell ⟨Q, 5, none⟩ (Value.int .i64 (cm))).setCell ⟨Q, 6, none⟩ (Value.bool (t.dn))).setCell ⟨Q, 7, none⟩ (Value.int .i64 (t.wr + 1)) = w7 at *
  clear c0 c1 c2 c3 c4 c5 c6 c7 cf0 cf1 cf2 cf3 cf4 cf5 cf6 cf7 D6 Z6 V6 W6 D3 Z3
  rcases CS.out with ⟨e1, e2, e3, e4, e5, e6, e7, e8, e9⟩ | ⟨e1, e2, e3, e4, k, ⟨c, r, k1, k2, k3, k4⟩, j0, j1, j2, j3, j4⟩
  · subst e1
    have fbe : t.write.1.fb n = t.fb n := by unfold Dk.fb; rw [e6, e8]
    have ER2 : res = (t.write.1.put n (t.write.1.fb n) (t.write.1.fb n).length, 0) := by rw [SY.out, if_neg (by rw [e2]; simp)]
    have EQ1 : Hid (res.1.dn = t.dn ∧ res.1.wr = t.wr + 1 ∧ res.2 = 0) := by rw [ER2]; exact ⟨(put_dn _ _ _ _).1.trans e4, (put_dn _ _ _ _).2.trans e5, rfl⟩
    have PTH : Hid (∀ (s X0 X1 P0 P1 : Sl) (w' : World) (B : Nat), Below w7.heap.size w7 w' → w7.heap.size ≤ B → RowB 5 B w' s.v (t.fb n) → ((if n = 0 then s else x0) = X0 ∧ (if n = 0 then x1 else s) = X1 ∧ (if n = 0 then Sl.z else p0) = P0 ∧ (if n = 0 then p1 else Sl.z) = P1) → RfNew T w7 res.1 X0 X1 P0 P1 xa cm w') := fun s X0 X1 P0 P1 w' B hb hB hs e => by
      rw [ER2, fbe]
      exact rf_put hn (e3 T w7 V7) hb hB (by rw [List.take_of_length_le (Nat.le_refl _)]; exact hs) (by simp) e
    clear CS e2 e3 e4 e5 e6 e7 e8 e9 ER2 fbe V7 SY HRES HV
    have c0 := B7.cell 0 _ rfl
    have c1 := B7.cell 1 _ rfl
    have c2 := B7.cell 2 _ rfl
    have c3 := B7.cell 3 _ rfl
    have c4 := B7.cell 4 _ rfl
    have c5 := B7.cell 5 _ rfl
    have c6 := B7.cell 6 _ rfl
    have c7 := B7.cell 7 _ rfl
    have HC7 : Hid (∀ w', Below w7.heap.size w7 w' → w'.cell? ⟨Q, 0, none⟩ = some (Value.slice x0.a x0.n x0.c) ∧ w'.cell? ⟨Q, 1, none⟩ = some (Value.slice x1.a x1.n x1.c) ∧ w'.cell? ⟨Q, 2, none⟩ = some (Value.slice p0.a p0.n p0.c) ∧ w'.cell? ⟨Q, 3, none⟩ = some (Value.slice p1.a p1.n p1.c) ∧ w'.cell? ⟨Q, 4, none⟩ = some (Value.slice xa.a xa.n xa.c) ∧ w'.cell? ⟨Q, 5, none⟩ = some (Value.int .i64 (cm)) ∧ w'.cell? ⟨Q, 6, none⟩ = some (Value.bool (t.dn)) ∧ w'.cell? ⟨Q, 7, none⟩ = some (Value.int .i64 (t.wr + 1))) := fun w' hb => by
      have D := B7.below hb
      exact ⟨D.cell 0 _ rfl, D.cell 1 _ rfl, D.cell 2 _ rfl, D.cell 3 _ rfl, D.cell 4 _ rfl, D.cell 5 _ rfl, D.cell 6 _ rfl, D.cell 7 _ rfl⟩
    have FR : Below w7.heap.size w7 w7 := Below.refl _ _
    go_upto_region 7 with fail
    go_cut [5] from 0 to 0 (fun v5 wx => v5 = .int .i64 0 ∧ ∃ X0 X1 P0 P1, Blk (Q + 1) 34 (RV X0 X1 P0 P1 xa cm t.dn (t.wr + 1)) wx ∧ RfNew T w res.1 X0 X1 P0 P1 xa cm wx)
    case first =>
      go_region_with (first
      | (go_at_call 47; refine (DUG.out _ _ _).mono ?_; rintro e wa ⟨rfl, ba⟩; have FA : Below w7.heap.size w7 wa := (by first | exact below_trans FR ba | exact below_trans (below_drewN FR 1) ba | exact below_trans (below_drewN FR 2) ba); obtain ⟨i0, i1, i2, i3, i4, i5, i6, i7⟩ := HC7.out _ FA)
      | (go_at_call 48; refine (PEG.out _ _ _).mono ?_; rintro e wb ⟨rfl, bb⟩; have FB : Below w7.heap.size w7 wb := (by first | exact below_trans FA bb | exact below_trans (below_drewN FA 1) bb); obtain ⟨j0, j1, j2, j3, j4, j5, j6, j7⟩ := HC7.out _ FB)
      | (go_at_call 46; refine (JN.out _ _ _ _ _ L1 L2 ((RRH.out _ (below_trans W7 FB)).1) ((RRH.out _ (below_trans W7 FB)).2)).mono ?_; rintro e wd ⟨vd, rfl, rd, bd⟩; obtain ⟨sd, ed, nd⟩ := sl_of rd; subst ed; clear nd; have FD := below_trans FB bd; obtain ⟨k0, k1, k2, k3, k4, k5, k6, k7⟩ := HC7.out _ FD; obtain ⟨X0, X1, P0, P1, hE, hC⟩ := WT.out cm (t.wr + 1) sd)
      | (go_at_call 49; refine (hC _).mono ?_; rintro e we ⟨rfl, be⟩; have FE := below_trans FD be; obtain ⟨q0, q1, q2, q3, q4, q5, q6, q7⟩ := HC7.out _ FE; have ZE := Z7.below FE; have m0 := ZE.cell 0 _ rfl; have mf0 := ZE.fz 0; have m1 := ZE.cell 1 _ rfl; have mf1 := ZE.fz 1; have m2 := ZE.cell 2 _ rfl; have mf2 := ZE.fz 2; have m3 := ZE.cell 3 _ rfl; have mf3 := ZE.fz 3; have m4 := ZE.cell 4 _ rfl; have mf4 := ZE.fz 4; have m5 := ZE.cell 5 _ rfl; have mf5 := ZE.fz 5; have m6 := ZE.cell 6 _ rfl; have mf6 := ZE.fz 6; have m7 := ZE.cell 7 _ rfl; have mf7 := ZE.fz 7))
      all_goals
        have PT : Hid (RfNew T w7 res.1 X0 X1 P0 P1 xa cm we) := PTH.out sd X0 X1 P0 P1 we _ FE (Nat.le_refl _) (RowV.mono (RowV.later (by rw [List.take_append_drop] at rd; exact rd) be) FB.size) hE.out
        have RN := PT.out
        obtain ⟨T1, v1, n1, _⟩ := RN
        have sz7 := Z7.lt
        obtain ⟨b9, g9⟩ := Blk.eight (Z7.below FE) (Value.slice X0.a X0.n X0.c) (Value.slice X1.a X1.n X1.c) (Value.slice P0.a P0.n P0.c) (Value.slice P1.a P1.n P1.c) (Value.slice xa.a xa.n xa.c) (Value.int .i64 (cm)) (Value.bool (t.dn)) (Value.int .i64 (t.wr + 1))
        have R9 : RfNew T w res.1 X0 X1 P0 P1 xa cm _ := RfNew.grown (G := Q + 1) ⟨T1, v1, fun g hg => (n1 g hg).imp id (fun h => Nat.le_trans W7.size h), below_trans W7 FE, fun hx => (n1 _ hx).elim NT.out.1 (fun h => by omega)⟩ g9 (by have := HQ.out; omega)
        have B9 : Hid (_ ∧ _) := ⟨b9, R9⟩
        clear b9 g9 v1 n1 R9 PT
        go_wp2_with fail
        go_meet
        exact ⟨rfl, X0, X1, P0, P1, B9.out⟩
    case rest =>
      obtain ⟨rfl, X0, X1, P0, P1, B9, R9⟩ := hcut
      have B9 : Hid _ := B9
      have R9 : Hid _ := R9
      go_wp2_with fail
      exact bodyPost_cell_tmp rfl rfl (Q + 1) _ _ _ _ rfl B9.out Try.underlying34 rfl (by kernel_rfl) ⟨X0, X1, P0, P1, xa, cm, by rw [EQ1.out.1, EQ1.out.2.1, EQ1.out.2.2]; rfl, R9.out⟩
  · subst e1
    have ER2 : res = t.write := by rw [SY.out, if_pos (by rw [e2]; simp)]
    clear SY HRES HV DUG PEG WT JN RRH L1 L2
    have EQ1 : Hid (res.1.dn = true ∧ res.1.wr = t.wr + 1 ∧ res.2 = 51) := by rw [ER2]; exact ⟨e3, e4, e2⟩
    have FL : Hid (Calls _ _ _ _ _) := rfallen_at T t x0 x1 p0 p1 xa cn cm t.dn (t.wr + 1) w7 ok V7 c r k k1 k2 k3 k4
    have CA : Hid (∀ {T' w' w'' y0 y1 ya}, RfNew T' w' (t.down k) y0 y1 Sl.z Sl.z ya 0 w'' → RfNew T' w' res.1 y0 y1 Sl.z Sl.z ya 0 w'') := fun h => by rw [ER2]; exact h.cast j0 j1 j2 j3 j4
    clear CS e2 e3 e4 j0 j1 j2 j3 j4 V7 k1 k2 k3 k4 ER2
    have l0 := B7.cell 0 _ rfl
    have l1 := B7.cell 1 _ rfl
    have l2 := B7.cell 2 _ rfl
    have l3 := B7.cell 3 _ rfl
    have l4 := B7.cell 4 _ rfl
    have l5 := B7.cell 5 _ rfl
    have l6 := B7.cell 6 _ rfl
    have l7 := B7.cell 7 _ rfl
    go_wp2_with fail
    refine FL.out.mono ?_
    rintro e w8 ⟨y0, y1, ya, rfl, R8⟩
    have R8 := CA.out R8
    obtain ⟨T8, v8, n8, b8⟩ := R8
    have Z8 := Z7.below b8
    have sz7 := Z7.lt
    have X8 : Hid (∃ T', RfV T' res.1 y0 y1 Sl.z Sl.z ya 0 w8 ∧ (∀ g, T' g → T g ∨ w.heap.size ≤ g) ∧ Below w.heap.size w w8 ∧ ¬ T' (Q + 1)) := ⟨T8, v8, fun g hg => (n8 g hg).imp id (fun h => Nat.le_trans W7.size h), below_trans W7 b8, fun hx => (n8 _ hx).elim NT.out.1 (fun h => by omega)⟩
    clear v8 n8 b8 Z7 B7 W7 FL CA l0 l1 l2 l3 l4 l5 l6 l7
    obtain ⟨b9, g9⟩ := Blk.eight Z8 (Value.slice y0.a y0.n y0.c) (Value.slice y1.a y1.n y1.c) (Value.slice none 0 0) (Value.slice none 0 0) (Value.slice ya.a ya.n ya.c) (Value.int .i64 (0)) (Value.bool (true)) (Value.int .i64 (t.wr + 1))
    have B9 : Hid (Blk _ _ _ _) := b9
    have R9 : Hid (RfNew T w _ _ _ _ _ _ _ _) := RfNew.grown (G := Q + 1) X8.out g9 (by have := HQ.out; omega)
    have m0 := Z8.cell 0 _ rfl
    have m1 := Z8.cell 1 _ rfl
    have m2 := Z8.cell 2 _ rfl
    have m3 := Z8.cell 3 _ rfl
    have m4 := Z8.cell 4 _ rfl
    have m5 := Z8.cell 5 _ rfl
    have m6 := Z8.cell 6 _ rfl
    have m7 := Z8.cell 7 _ rfl
    have mf0 := Z8.fz 0
    have mf1 := Z8.fz 1
    have mf2 := Z8.fz 2
    have mf3 := Z8.fz 3
    have mf4 := Z8.fz 4
    have mf5 := Z8.fz 5
    have mf6 := Z8.fz 6
    have mf7 := Z8.fz 7
    clear b9 g9
    go_wp2_with fail
    generalize (((((((w8.setCell ⟨Q + 1, 0, none⟩ (Value.slice y0.a y0.n y0.c)).setCell ⟨Q + 1, 1, none⟩ (Value.slice y1.a y1.n y1.c)).setCell ⟨Q + 1, 2, none⟩ (Value.slice none 0 0)).setCell ⟨Q + 1, 3, none⟩ (Value.slice none 0 0)).setCell ⟨Q + 1, 4, none⟩ (Value.slice ya.a ya.n ya.c)).setCell ⟨Q + 1, 5, none⟩ (Value.int .i64 (0))).setCell ⟨Q + 1, 6, none⟩ (Value.bool (true))).setCell ⟨Q + 1, 7, none⟩ (Value.int .i64 (t.wr + 1)) = V9 at *
    exact bodyPost_cell_tmp rfl rfl (Q + 1) _ _ _ _ rfl B9.out Try.underlying34 rfl (by kernel_rfl) ⟨y0, y1, Sl.z, Sl.z, ya, 0, by rw [EQ1.out.1, EQ1.out.2.1, EQ1.out.2.2]; rfl, R9.out⟩
end Go.Proofs.Ytiefnomldfhhnaa
