/-
  Ours: the reference's Read, Durable, Load.
-/
import Derived.Test.YtiefnomldfhhnaaDskRf5
import Derived.Deep.RegionWith
namespace Go.Proofs.Ytiefnomldfhhnaa
open Go.RowKit

set_option maxRecDepth 100000 in
set_option maxHeartbeats 1000000 in
theorem rread_at (T : Nat → Prop) (t : Dk) (x0 x1 p0 p1 xa : Sl) (cn : Int) (w : World) (h : RfV T t x0 x1 p0 p1 xa cn w) (ok : t.Ok) (n : Int) :
    Calls Try.prog 23 #[.agg (RV x0 x1 p0 p1 xa cn t.dn t.wr).toArray, .int .i64 n] w (NewE w (t.read n)) := by
  obtain ⟨du, hdu⟩ : ∃ d, (if n = 0 then x0 else x1) = d := ⟨_, rfl⟩
  obtain ⟨pe, hpe⟩ : ∃ d, (if n = 0 then p0 else p1) = d := ⟨_, rfl⟩
  have W2 := below_alloc w (.cells (RV x0 x1 p0 p1 xa cn t.dn t.wr).toArray 34)
  have D2 := Blk.new 34 (RV x0 x1 p0 p1 xa cn t.dn t.wr) w
  have RF : Hid (∀ w', Calls Try.prog 45 #[.agg (RV x0 x1 p0 p1 xa cn t.dn t.wr).toArray, .int .i64 n] w' fun e w'' => e = .returned (.int .i64 (t.no n)) ∧ Below w'.heap.size w' w'') := fun w' => by unfold Dk.no; exact rrefused_at x0 x1 p0 p1 xa cn t.dn t.wr n w'
  have DU : Hid (∀ w', Calls Try.prog 47 #[.agg (RV x0 x1 p0 p1 xa cn t.dn t.wr).toArray, .int .i64 n] w' fun e w'' => e = .returned (.slice du.a du.n du.c) ∧ Below w'.heap.size w' w'') := fun w' => by have := rdurable_at x0 x1 p0 p1 xa cn t.dn t.wr n w'; rw [hdu] at this; exact this
  have PE : Hid (∀ w', Calls Try.prog 48 #[.agg (RV x0 x1 p0 p1 xa cn t.dn t.wr).toArray, .int .i64 n] w' fun e w'' => e = .returned (.slice pe.a pe.n pe.c) ∧ Below w'.heap.size w' w'') := fun w' => by have := rpending_at x0 x1 p0 p1 xa cn t.dn t.wr n w'; rw [hpe] at this; exact this
  have JN : Hid (∀ (u v : Value) (xs bs : List Nat) w', xs.length ≤ 1000000000 → bs.length ≤ 1000000000 → RdB w' u xs → RdB w' v bs → Calls Try.prog 46 #[u, v] w' (NewB w' (xs ++ bs))) := fun u v xs bs w' h1 h2 h3 h4 => rjoined_at xs bs u v w' h1 h2 h3 h4
  have HV : Hid (∀ w', Below w.heap.size w w' → RfV T t x0 x1 p0 p1 xa cn w') := fun w' hb => h.below hb
  obtain ⟨rs, hrs⟩ : ∃ r, t.read n = r := ⟨_, rfl⟩
  rw [hrs]
  go_enter Try.func23, Try.ntmps23
  go_upto_region 1 with fail
  generalize w.alloc (.cells (RV x0 x1 p0 p1 xa cn t.dn t.wr).toArray 34) = w2 at *
  obtain ⟨Q, hQ⟩ : ∃ Q, w.heap.size = Q := ⟨_, rfl⟩
  rw [hQ] at D2 ⊢
  clear hQ h
  have c0 := D2.cell 0 _ rfl
  have c1 := D2.cell 1 _ rfl
  have c2 := D2.cell 2 _ rfl
  have c3 := D2.cell 3 _ rfl
  have c4 := D2.cell 4 _ rfl
  have c5 := D2.cell 5 _ rfl
  have c6 := D2.cell 6 _ rfl
  have c7 := D2.cell 7 _ rfl
  go_wp2_with fail
  refine (RF.out _).mono ?_
  rintro e w3 ⟨rfl, b3⟩
  have D3 := D2.below b3
  have W3 := below_trans W2 b3
  clear D2 W2 b3 RF c0 c1 c2 c3 c4 c5 c6 c7
  by_cases hno : t.no n ≠ 0
  · have g1 : (t.no n != 0) = true := bne_iff_ne.2 hno
    have er : rs = ([], t.no n) := by rw [← hrs]; unfold Dk.read; rw [if_pos hno]
    subst er
    have W3 : Hid (Below w.heap.size w w3) := W3
    clear JN DU PE hno HV D3 hrs
    go_wp2_with fail
    go_ret2
    exact ⟨none, 0, rfl, RowV.nil _ _ _, W3.out⟩
  have hn := (no_zero hno).1
  have er : rs = (t.fb n, 0) := by rw [← hrs]; unfold Dk.read; rw [if_neg hno]
  subst er
  clear hrs
  have e0 : t.no n = 0 := by by_cases hx : t.no n = 0
                             · exact hx
                             · exact absurd hx hno
  rw [e0]
  have RRH : Hid (∀ w', Below w.heap.size w w' → RdB w' (.slice du.a du.n du.c) ((t.fb n).take (t.fd n)) ∧ RdB w' (.slice pe.a pe.n pe.c) ((t.fb n).drop (t.fd n))) := fun w' hb => by
    have RR := fb_row (HV.out w' hb) hn
    rw [hdu, hpe] at RR
    exact ⟨RR.1.rd, RR.2.rd⟩
  have fl0 : (t.fb n).length ≤ 16777216 := by unfold Dk.fb; split; exact ok.l0; exact ok.l1
  have L1 : ((t.fb n).take (t.fd n)).length ≤ 1000000000 := by rw [List.length_take]; omega
  have L2 : ((t.fb n).drop (t.fd n)).length ≤ 1000000000 := by rw [List.length_drop]; omega
  have HC3 : Hid (∀ w', Below w3.heap.size w3 w' → w'.cell? ⟨Q, 0, none⟩ = some (Value.slice x0.a x0.n x0.c) ∧ w'.cell? ⟨Q, 1, none⟩ = some (Value.slice x1.a x1.n x1.c) ∧ w'.cell? ⟨Q, 2, none⟩ = some (Value.slice p0.a p0.n p0.c) ∧ w'.cell? ⟨Q, 3, none⟩ = some (Value.slice p1.a p1.n p1.c) ∧ w'.cell? ⟨Q, 4, none⟩ = some (Value.slice xa.a xa.n xa.c) ∧ w'.cell? ⟨Q, 5, none⟩ = some (Value.int .i64 (cn)) ∧ w'.cell? ⟨Q, 6, none⟩ = some (Value.bool (t.dn)) ∧ w'.cell? ⟨Q, 7, none⟩ = some (Value.int .i64 (t.wr))) := fun w' hb => by
    have D := D3.below hb
    exact ⟨D.cell 0 _ rfl, D.cell 1 _ rfl, D.cell 2 _ rfl, D.cell 3 _ rfl, D.cell 4 _ rfl, D.cell 5 _ rfl, D.cell 6 _ rfl, D.cell 7 _ rfl⟩
  obtain ⟨c0, c1, c2, c3, c4, c5, c6, c7⟩ := HC3.out w3 (Below.refl _ _)
  have FR : Below w3.heap.size w3 w3 := Below.refl _ _
  clear e0 hno hdu hpe HV D3
  go_upto_region 4 with fail
  go_region_with (first
    | (go_at_call 47; refine (DU.out _).mono ?_; rintro e wa ⟨rfl, ba⟩; have FA : Below w3.heap.size w3 wa := (by first | exact below_trans FR ba | exact below_trans (below_drewN FR 1) ba); obtain ⟨i0, i1, i2, i3, i4, i5, i6, i7⟩ := HC3.out _ FA)
    | (go_at_call 48; refine (PE.out _).mono ?_; rintro e wb ⟨rfl, bb⟩; have FB : Below w3.heap.size w3 wb := (by first | exact below_trans FA bb | exact below_trans (below_drewN FA 1) bb))
    | (go_at_call 46; refine (JN.out _ _ _ _ _ L1 L2 ((RRH.out _ (below_trans W3 FB)).1) ((RRH.out _ (below_trans W3 FB)).2)).mono ?_; rintro e w4 ⟨vd, rfl, rd, bd⟩; rw [List.take_append_drop] at rd; obtain ⟨an, cn', ed, _⟩ := row_shape rd; rw [List.length_map] at ed; subst ed; have FD : Hid (Below w.heap.size w w4) := below_trans (below_trans W3 FB) bd; have RD : Hid (RowB _ _ _ _ _) := RowV.mono rd (Nat.le_trans W3.size FB.size); clear rd bd))
  all_goals
    go_wp2_with fail
    go_ret2
    exact ⟨an, cn', rfl, RD.out, FD.out⟩

set_option maxRecDepth 100000 in
set_option maxHeartbeats 1000000 in
theorem rdur_at (T : Nat → Prop) (t : Dk) (x0 x1 p0 p1 xa : Sl) (cn : Int) (w : World) (h : RfV T t x0 x1 p0 p1 xa cn w) (ok : t.Ok) (n : Int) :
    Calls Try.prog 24 #[.agg (RV x0 x1 p0 p1 xa cn t.dn t.wr).toArray, .int .i64 n] w (NewE w (t.durable n)) := by
  obtain ⟨du, hdu⟩ : ∃ d, (if n = 0 then x0 else x1) = d := ⟨_, rfl⟩
  have W2 := below_alloc w (.cells (RV x0 x1 p0 p1 xa cn t.dn t.wr).toArray 34)
  have D2 := Blk.new 34 (RV x0 x1 p0 p1 xa cn t.dn t.wr) w
  have DU : Hid (∀ w', Calls Try.prog 47 #[.agg (RV x0 x1 p0 p1 xa cn t.dn t.wr).toArray, .int .i64 n] w' fun e w'' => e = .returned (.slice du.a du.n du.c) ∧ Below w'.heap.size w' w'') := fun w' => by have := rdurable_at x0 x1 p0 p1 xa cn t.dn t.wr n w'; rw [hdu] at this; exact this
  have HV : Hid (∀ w', Below w.heap.size w w' → RfV T t x0 x1 p0 p1 xa cn w') := fun w' hb => h.below hb
  by_cases hn : n = 0 ∨ n = 1
  · obtain ⟨xs, hxs⟩ : ∃ xs, (t.fb n).take (t.fd n) = xs := ⟨_, rfl⟩
    have er : t.durable n = (xs, 0) := by unfold Dk.durable; rw [if_pos hn, hxs]
    rw [er]
    have CP : Hid (∀ w', Below w.heap.size w w' → Calls Try.prog 42 #[.slice du.a du.n du.c] w' (NewB w' xs)) := fun w' hb => by
      have RR := fb_row (HV.out w' hb) hn
      rw [hdu] at RR
      rw [← hxs]
      exact rcopied_at _ _ w' (by rw [List.length_take]; unfold Dk.fb; have := ok.l0; have := ok.l1; split <;> omega) RR.1.rd
    have gn : (n != 0) = false ∨ ((n != 0) = true ∧ (n != 1) = false) := by
      rcases hn with rfl | rfl
      · left; rfl
      · right; exact ⟨rfl, rfl⟩
    clear h HV hdu er hn hxs
    go_enter Try.func24, Try.ntmps24
    go_upto_region 1 with fail
    generalize w.alloc (.cells (RV x0 x1 p0 p1 xa cn t.dn t.wr).toArray 34) = w2 at *
    obtain ⟨Q, hQ⟩ : ∃ Q, w.heap.size = Q := ⟨_, rfl⟩
    rw [hQ] at D2 ⊢
    have c0 := D2.cell 0 _ rfl
    have c1 := D2.cell 1 _ rfl
    have c2 := D2.cell 2 _ rfl
    have c3 := D2.cell 3 _ rfl
    have c4 := D2.cell 4 _ rfl
    have c5 := D2.cell 5 _ rfl
    have c6 := D2.cell 6 _ rfl
    have c7 := D2.cell 7 _ rfl
    rw [← hQ]
    rcases gn with g1 | ⟨g1, g2⟩
    all_goals
      rw [hQ]
      go_wp2_with fail
      refine (DU.out _).mono ?_
      rintro e w3 ⟨rfl, b3⟩
      have W3 := below_trans W2 b3
      go_wp2_with fail
      refine (CP.out _ W3).mono ?_
      rintro e w4 ⟨vd, rfl, rd, bd⟩
      obtain ⟨an, cn', ed, _⟩ := row_shape rd
      rw [List.length_map] at ed
      subst ed
      have FD : Hid (Below w.heap.size w w4) := below_trans W3 bd
      have RD : Hid (RowB _ _ _ _ _) := RowV.mono rd W3.size
      clear rd bd b3
      go_wp2_with fail
      go_ret2
      exact ⟨an, cn', rfl, RD.out, FD.out⟩
  · have er : t.durable n = ([], 50) := by unfold Dk.durable; rw [if_neg hn]
    rw [er]
    have g1 : (n != 0) = true := bne_iff_ne.2 (fun h => hn (.inl h))
    have g2 : (n != 1) = true := bne_iff_ne.2 (fun h => hn (.inr h))
    have W2 : Hid _ := W2
    clear h HV hdu er hn DU D2
    go_enter Try.func24, Try.ntmps24
    go_wp2_with fail
    go_ret2
    exact ⟨none, 0, rfl, RowV.nil _ _ _, W2.out⟩

end Go.Proofs.Ytiefnomldfhhnaa
