/-
  Ours: the statements' rowsRight, lateRight.
-/
import Derived.Test.YtekejcpgoijoaabAgRef2
import Derived.Test.YtekejcpgoijoaabAgSame
namespace Go.Proofs.Ytekejcpgoijoaab
open Go.RowKit LedM AgM

set_option maxRecDepth 20000 in
set_option maxHeartbeats 4000000 in
theorem rowsRight_at (l : List Ins) (A R d : Int) (v : Value) (w : World) (h4 : l.length ≤ 400) (ok : ∀ x ∈ l, InsOk x) (hA : i64 A) (h : RdP w v l) :
    Calls Try.prog 18 #[v, .agg #[.int .i64 A, .int .i64 R], .int .i64 d] w fun e w' => e = .returned (.bool true) ∧ Below w.heap.size w w' := by
  have BC : Hid (Below w.heap.size w (w.alloc (.cells #[.int .i64 A, .int .i64 R] 24)) ∧ (w.alloc (.cells #[.int .i64 A, .int .i64 R] 24)).cell? ⟨w.heap.size, 0, none⟩ = some (.int .i64 A) ∧ (w.alloc (.cells #[.int .i64 A, .int .i64 R] 24)).cell? ⟨w.heap.size, 1, none⟩ = some (.int .i64 R)) := ⟨below_alloc w _, (Blk.new 24 [.int .i64 A, .int .i64 R] w).cell 0 _ rfl, (Blk.new 24 [.int .i64 A, .int .i64 R] w).cell 1 _ rfl⟩
  have CP : Hid (∀ w', Below w.heap.size w w' → Calls Try.prog 6 #[v] w' fun e w2 => ∃ v', e = .returned v' ∧ RowP w'.heap.size w2 v' l ∧ Below w'.heap.size w' w2) := fun w' hb => copied_at l v w' (by omega) (h.later hb)
  have SPL : Hid (∀ va vb w', RdP w' va l → RdP w' vb l → Calls Try.prog 9 #[va, vb] w' fun e w2 => e = .returned (.bool true) ∧ Below w'.heap.size w' w2) := fun va vb w' h1 h2 => (sameP_yes l va vb w' (by omega) h1 h2).mono fun e w2 ⟨he, m, hw⟩ => ⟨he, by rw [hw]; exact below_drewN (Below.refl _ _) m⟩
  obtain ⟨n, hn⟩ := SatF.ex (sP l) A R
  obtain ⟨sn, E1⟩ : ∃ x, x = (n : Int) := ⟨_, rfl⟩
  obtain ⟨ok1, E2⟩ : ∃ x, x = oldK n (sP l).length := ⟨_, rfl⟩
  obtain ⟨ob1, E3⟩ : ∃ x, x = oldB n (sP l).length := ⟨_, rfl⟩
  obtain ⟨bk, E4⟩ : ∃ x, x = bktV d := ⟨_, rfl⟩
  have SA : Hid (∀ v' w', RdP w' v' l → Calls Try.prog 28 #[v', .agg #[.int .i64 A, .int .i64 R]] w' fun e w2 => e = .returned (.int .i64 sn) ∧ Below w'.heap.size w' w2) := fun v' w' hr => by rw [E1]; exact satisfied_at l A R n v' w' (by omega) ok hA hn hr
  have RSA : Hid (∀ v' w', RdP w' v' l → Calls Try.prog 29 #[v', .agg #[.int .i64 A, .int .i64 R]] w' fun e w2 => e = .returned (.int .i64 sn) ∧ Below w'.heap.size w' w2) := fun v' w' hr => by rw [E1]; exact rsatisfied_at l A R n v' w' (by omega) ok hA hn hr
  have OL : Hid (∀ v' w', RdP w' v' l → Calls Try.prog 21 #[v', .agg #[.int .i64 A, .int .i64 R]] w' fun e w2 => e = .returned (.tuple #[.int .i64 ok1, .bool ob1]) ∧ Below w'.heap.size w' w2) := fun v' w' hr => by rw [E2, E3]; exact oldest_at l A R n v' w' (by omega) ok hA hn hr
  have ROL : Hid (∀ v' w', RdP w' v' l → Calls Try.prog 22 #[v', .agg #[.int .i64 A, .int .i64 R]] w' fun e w2 => e = .returned (.tuple #[.int .i64 ok1, .bool ob1]) ∧ Below w'.heap.size w' w2) := fun v' w' hr => by rw [E2, E3]; exact roldest_at l A R n v' w' (by omega) ok hA hn hr
  have BU : Hid (∀ w', Calls Try.prog 17 #[.int .i64 d] w' fun e w2 => e = .returned (.int .i64 bk) ∧ Below w'.heap.size w' w2) := fun w' => (bucket_at d w').mono fun e w2 ⟨he, hw⟩ => ⟨by rw [he, E4], by rw [hw]; exact Below.refl _ _⟩
  have RBU : Hid (∀ w', Calls Try.prog 30 #[.int .i64 d] w' fun e w2 => e = .returned (.int .i64 bk) ∧ Below w'.heap.size w' w2) := fun w' => (rbucket_at d w').mono fun e w2 ⟨he, hw⟩ => ⟨by rw [he, E4], by rw [hw]; exact Below.refl _ _⟩
  clear E1 E2 E3 E4
  have q1 : (sn != sn) = false := by simp
  have q2 : (ok1 == ok1) = true := by simp
  have q3 : (ob1 == ob1) = true := by simp
  have q4 : (bk != bk) = false := by simp
  have RD : Hid (∀ w', Below w.heap.size w w' → RdP w' v l) := fun w' hb => h.later hb
  obtain ⟨ao, cap, rfl, -, -, -⟩ := h
  obtain ⟨L, hL⟩ : ∃ L, l.length = L := ⟨_, rfl⟩
  rw [hL] at CP RD h4 ⊢
  have q : ¬ (400 : Int) < (L : Int) := by omega
  clear hL ok hn
  go_enter Try.func18, Try.ntmps18
  go_wp2_with fail
  refine (CP.out _ BC.out.1).mono ?_
  rintro e w2 ⟨v2, rfl, r2, b2⟩
  have HB : Hid (∀ w', Below w2.heap.size w2 w' → RdP w' (.slice ao L cap) l ∧ RdP w' v2 l) := fun w' hb => ⟨(RD.out _ (below_trans BC.out.1 b2)).later hb, r2.rd.later hb⟩
  have WB : Hid (Below w.heap.size w w2) := below_trans BC.out.1 b2
  have B2 : Hid (Below w2.heap.size w2 w2 ∧ w2.cell? ⟨w.heap.size, 0, none⟩ = some (.int .i64 A) ∧ w2.cell? ⟨w.heap.size, 1, none⟩ = some (.int .i64 R)) := ⟨Below.refl _ _, (heldP b2 BC.out).2.1, (heldP b2 BC.out).2.2⟩
  clear r2 b2 BC CP RD
  go_wp2_with fail
  go_region_held3 (fun w' => Below w2.heap.size w2 w' ∧ w'.cell? ⟨w.heap.size, 0, none⟩ = some (.int .i64 A) ∧ w'.cell? ⟨w.heap.size, 1, none⟩ = some (.int .i64 R)) (first | assumption | exact ⟨Below.drew B2.out.1, B2.out.2.1, B2.out.2.2⟩ | exact heldP hU (by assumption)) (first | (go_at_call 28; refine (SA.out _ _ (HB.out _ (And.left (by assumption))).2).mono ?_; rintro e w1 ⟨rfl, hU⟩) | (go_at_call 29; refine (RSA.out _ _ (HB.out _ (And.left (by assumption))).1).mono ?_; rintro e w1 ⟨rfl, hU⟩) | (go_at_call 17; refine (BU.out _).mono ?_; rintro e w1 ⟨rfl, hU⟩) | (go_at_call 30; refine (RBU.out _).mono ?_; rintro e w1 ⟨rfl, hU⟩))
  have B3 : Hid (Below w2.heap.size w2 w1 ∧ w1.cell? ⟨w.heap.size, 0, none⟩ = some (.int .i64 A) ∧ w1.cell? ⟨w.heap.size, 1, none⟩ = some (.int .i64 R)) := by assumption
  clear B2 hU SA RSA BU RBU
  obtain ⟨w3, rfl⟩ : ∃ x, x = w1 := ⟨_, rfl⟩
  have p0 := B3.out.2.1
  have p1 := B3.out.2.2
  go_wp2_with fail
  refine (OL.out _ _ (HB.out _ B3.out.1).2).mono ?_
  rintro e w4 ⟨rfl, b⟩
  have B4 : Hid (Below w2.heap.size w2 w4 ∧ w4.cell? ⟨w.heap.size, 0, none⟩ = some (.int .i64 A) ∧ w4.cell? ⟨w.heap.size, 1, none⟩ = some (.int .i64 R)) := heldP b B3.out
  clear b B3 p0 p1
  have p0 := B4.out.2.1
  have p1 := B4.out.2.2
  go_wp2_with fail
  refine (ROL.out _ _ (HB.out _ B4.out.1).1).mono ?_
  rintro e w5 ⟨rfl, b⟩
  have B5 : Hid (Below w2.heap.size w2 w5 ∧ w5.cell? ⟨w.heap.size, 0, none⟩ = some (.int .i64 A) ∧ w5.cell? ⟨w.heap.size, 1, none⟩ = some (.int .i64 R)) := heldP b B4.out
  clear b B4 p0 p1
  go_wp2_with fail
  refine (SPL.out _ _ _ (HB.out _ B5.out.1).2 (HB.out _ B5.out.1).1).mono ?_
  rintro e w6 ⟨rfl, b⟩
  have B6 : Hid (Below w.heap.size w w6) := below_trans WB.out (below_trans B5.out.1 b)
  clear b B5
  go_wp2_with fail
  go_ret
  exact ⟨rfl, B6.out⟩

set_option maxRecDepth 20000 in
set_option maxHeartbeats 4000000 in
theorem lateRight_at (l : List Ins) (A R t : Int) (v : Value) (w : World) (h4 : l.length ≤ 400) (ok : ∀ x ∈ l, InsOk x) (hA : i64 A) (ht : i64 t) (h : RdP w v l) :
    Calls Try.prog 19 #[v, .agg #[.int .i64 A, .int .i64 R], .int .i64 t] w fun e w' => e = .returned (.bool true) ∧ Below w.heap.size w w' := by
  have BC : Hid (Below w.heap.size w (w.alloc (.cells #[.int .i64 A, .int .i64 R] 24)) ∧ (w.alloc (.cells #[.int .i64 A, .int .i64 R] 24)).cell? ⟨w.heap.size, 0, none⟩ = some (.int .i64 A) ∧ (w.alloc (.cells #[.int .i64 A, .int .i64 R] 24)).cell? ⟨w.heap.size, 1, none⟩ = some (.int .i64 R)) := ⟨below_alloc w _, (Blk.new 24 [.int .i64 A, .int .i64 R] w).cell 0 _ rfl, (Blk.new 24 [.int .i64 A, .int .i64 R] w).cell 1 _ rfl⟩
  have CP : Hid (∀ w', Below w.heap.size w w' → Calls Try.prog 6 #[v] w' fun e w2 => ∃ v', e = .returned v' ∧ RowP w'.heap.size w2 v' l ∧ Below w'.heap.size w' w2) := fun w' hb => copied_at l v w' (by omega) (h.later hb)
  have SPL : Hid (∀ va vb w', RdP w' va l → RdP w' vb l → Calls Try.prog 9 #[va, vb] w' fun e w2 => e = .returned (.bool true) ∧ Below w'.heap.size w' w2) := fun va vb w' h1 h2 => (sameP_yes l va vb w' (by omega) h1 h2).mono fun e w2 ⟨he, m, hw⟩ => ⟨he, by rw [hw]; exact below_drewN (Below.refl _ _) m⟩
  obtain ⟨n, hn⟩ := SatF.ex (sP l) A R
  obtain ⟨c, hp⟩ := Pre.ex (sP_snd l) t
  obtain ⟨dv, E6⟩ : ∃ x, x = daysV l n t := ⟨_, rfl⟩
  obtain ⟨pv1, E7⟩ : ∃ x, x = pdV (sP l) A R t c := ⟨_, rfl⟩
  have DA : Hid (∀ v' w', RdP w' v' l → Calls Try.prog 31 #[v', .agg #[.int .i64 A, .int .i64 R], .int .i64 t] w' fun e w2 => e = .returned (.int .i64 dv) ∧ Below w'.heap.size w' w2) := fun v' w' hr => by rw [E6]; exact days_at l A R t n v' w' (by omega) ok hA ht hn hr
  have RDA : Hid (∀ v' w', RdP w' v' l → Calls Try.prog 32 #[v', .agg #[.int .i64 A, .int .i64 R], .int .i64 t] w' fun e w2 => e = .returned (.int .i64 dv) ∧ Below w'.heap.size w' w2) := fun v' w' hr => by rw [E6]; exact rdays_at l A R t n v' w' (by omega) ok hA ht hn hr
  have PD : Hid (∀ v' w', RdP w' v' l → Calls Try.prog 33 #[v', .agg #[.int .i64 A, .int .i64 R], .int .i64 t] w' fun e w2 => e = .returned (.int .i64 pv1) ∧ Below w'.heap.size w' w2) := fun v' w' hr => by rw [E7]; exact past_at l A R t c v' w' (by omega) ok hA ht hp hr
  have RPD : Hid (∀ v' w', RdP w' v' l → Calls Try.prog 34 #[v', .agg #[.int .i64 A, .int .i64 R], .int .i64 t] w' fun e w2 => e = .returned (.int .i64 pv1) ∧ Below w'.heap.size w' w2) := fun v' w' hr => by rw [E7]; exact rpast_at l A R t c v' w' (by omega) ok hA hp hr
  clear E6 E7 hp
  have q1 : (dv != dv) = false := by simp
  have q2 : (pv1 == pv1) = true := by simp
  have RD : Hid (∀ w', Below w.heap.size w w' → RdP w' v l) := fun w' hb => h.later hb
  obtain ⟨ao, cap, rfl, -, -, -⟩ := h
  obtain ⟨L, hL⟩ : ∃ L, l.length = L := ⟨_, rfl⟩
  rw [hL] at CP RD h4 ⊢
  have q : ¬ (400 : Int) < (L : Int) := by omega
  clear hL ok hn
  go_enter Try.func19, Try.ntmps19
  go_wp2_with fail
  refine (CP.out _ BC.out.1).mono ?_
  rintro e w2 ⟨v2, rfl, r2, b2⟩
  have HB : Hid (∀ w', Below w2.heap.size w2 w' → RdP w' (.slice ao L cap) l ∧ RdP w' v2 l) := fun w' hb => ⟨(RD.out _ (below_trans BC.out.1 b2)).later hb, r2.rd.later hb⟩
  have WB : Hid (Below w.heap.size w w2) := below_trans BC.out.1 b2
  have B2 : Hid (Below w2.heap.size w2 w2 ∧ w2.cell? ⟨w.heap.size, 0, none⟩ = some (.int .i64 A) ∧ w2.cell? ⟨w.heap.size, 1, none⟩ = some (.int .i64 R)) := ⟨Below.refl _ _, (heldP b2 BC.out).2.1, (heldP b2 BC.out).2.2⟩
  clear r2 b2 BC CP RD
  go_wp2_with fail
  go_region_held3 (fun w' => Below w2.heap.size w2 w' ∧ w'.cell? ⟨w.heap.size, 0, none⟩ = some (.int .i64 A) ∧ w'.cell? ⟨w.heap.size, 1, none⟩ = some (.int .i64 R)) (first | assumption | exact ⟨Below.drew B2.out.1, B2.out.2.1, B2.out.2.2⟩ | exact heldP hU (by assumption)) (first | (go_at_call 31; refine (DA.out _ _ (HB.out _ (And.left (by assumption))).2).mono ?_; rintro e w1 ⟨rfl, hU⟩) | (go_at_call 32; refine (RDA.out _ _ (HB.out _ (And.left (by assumption))).1).mono ?_; rintro e w1 ⟨rfl, hU⟩))
  have B3 : Hid (Below w2.heap.size w2 w1 ∧ w1.cell? ⟨w.heap.size, 0, none⟩ = some (.int .i64 A) ∧ w1.cell? ⟨w.heap.size, 1, none⟩ = some (.int .i64 R)) := by assumption
  clear B2 hU DA RDA
  go_wp2_with fail
  go_region_held3 (fun w' => Below w2.heap.size w2 w' ∧ w'.cell? ⟨w.heap.size, 0, none⟩ = some (.int .i64 A) ∧ w'.cell? ⟨w.heap.size, 1, none⟩ = some (.int .i64 R)) (first | assumption | exact ⟨Below.drew B3.out.1, B3.out.2.1, B3.out.2.2⟩ | exact heldP hU (by assumption)) (first | (go_at_call 33; refine (PD.out _ _ (HB.out _ (And.left (by assumption))).2).mono ?_; rintro e w1 ⟨rfl, hU⟩) | (go_at_call 34; refine (RPD.out _ _ (HB.out _ (And.left (by assumption))).1).mono ?_; rintro e w1 ⟨rfl, hU⟩) | (go_at_call 9; refine (SPL.out _ _ _ (HB.out _ (And.left (by assumption))).2 (HB.out _ (And.left (by assumption))).1).mono ?_; rintro e w1 ⟨rfl, hU⟩))
  have X4 : Below w2.heap.size w2 w1 ∧ w1.cell? ⟨w.heap.size, 0, none⟩ = some (.int .i64 A) ∧ w1.cell? ⟨w.heap.size, 1, none⟩ = some (.int .i64 R) := by assumption
  have B4 : Hid (Below w.heap.size w w1) := below_trans WB.out X4.1
  clear X4
  go_wp2_with fail
  go_ret
  exact ⟨rfl, B4.out⟩
end Go.Proofs.Ytekejcpgoijoaab
