/-
  Ours: the statement's asked.
-/
import Derived.Test.YtekejcpgoijoaabAgRef2
import Derived.Test.YtekejcpgoijoaabAgRef3
import Derived.Test.YtekejcpgoijoaabAgSame
namespace Go.Proofs.Ytekejcpgoijoaab
open Go.RowKit LedM AgM

set_option maxRecDepth 20000 in
set_option maxHeartbeats 4000000 in
theorem asked_at (l : List Ins) (A R t k : Int) (rows : List Int) (v vr : Value) (w : World) (h4 : l.length ≤ 400) (h4r : rows.length ≤ 400) (ok : ∀ x ∈ l, InsOk x) (hA : i64 A) (ht : i64 t) (h : RdP w v l) (hq : Reads w vr rows) :
    Calls Try.prog 27 #[v, .agg #[.int .i64 A, .int .i64 R], .int .i64 t, .int .i64 k, vr] w fun e w' => e = .returned (.bool true) ∧ Below w.heap.size w w' := by
  have BC : Hid (Below w.heap.size w (w.alloc (.cells #[.int .i64 A, .int .i64 R] 24)) ∧ (w.alloc (.cells #[.int .i64 A, .int .i64 R] 24)).cell? ⟨w.heap.size, 0, none⟩ = some (.int .i64 A) ∧ (w.alloc (.cells #[.int .i64 A, .int .i64 R] 24)).cell? ⟨w.heap.size, 1, none⟩ = some (.int .i64 R)) := ⟨below_alloc w _, (Blk.new 24 [.int .i64 A, .int .i64 R] w).cell 0 _ rfl, (Blk.new 24 [.int .i64 A, .int .i64 R] w).cell 1 _ rfl⟩
  obtain ⟨n, hn⟩ := SatF.ex (sP l) A R
  obtain ⟨c, hp⟩ := Pre.ex (sP_snd l) t
  obtain ⟨sn, E1⟩ : ∃ x, x = (n : Int) := ⟨_, rfl⟩
  obtain ⟨ok1, E2⟩ : ∃ x, x = oldK n (sP l).length := ⟨_, rfl⟩
  obtain ⟨ob1, E3⟩ : ∃ x, x = oldB n (sP l).length := ⟨_, rfl⟩
  obtain ⟨rv, E4⟩ : ∃ x, x = rchV l n t k := ⟨_, rfl⟩
  obtain ⟨rb, E5⟩ : ∃ x, x = rchB l n t k := ⟨_, rfl⟩
  obtain ⟨dv, E6⟩ : ∃ x, x = daysV l n t := ⟨_, rfl⟩
  obtain ⟨pv1, E7⟩ : ∃ x, x = pdV (sP l) A R t c := ⟨_, rfl⟩
  have SA : Hid (∀ v' w', RdP w' v' l → Calls Try.prog 28 #[v', .agg #[.int .i64 A, .int .i64 R]] w' fun e w2 => e = .returned (.int .i64 sn) ∧ Below w'.heap.size w' w2) := fun v' w' hr => by rw [E1]; exact satisfied_at l A R n v' w' (by omega) ok hA hn hr
  have RSA : Hid (∀ v' w', RdP w' v' l → Calls Try.prog 29 #[v', .agg #[.int .i64 A, .int .i64 R]] w' fun e w2 => e = .returned (.int .i64 sn) ∧ Below w'.heap.size w' w2) := fun v' w' hr => by rw [E1]; exact rsatisfied_at l A R n v' w' (by omega) ok hA hn hr
  have OL : Hid (∀ v' w', RdP w' v' l → Calls Try.prog 21 #[v', .agg #[.int .i64 A, .int .i64 R]] w' fun e w2 => e = .returned (.tuple #[.int .i64 ok1, .bool ob1]) ∧ Below w'.heap.size w' w2) := fun v' w' hr => by rw [E2, E3]; exact oldest_at l A R n v' w' (by omega) ok hA hn hr
  have ROL : Hid (∀ v' w', RdP w' v' l → Calls Try.prog 22 #[v', .agg #[.int .i64 A, .int .i64 R]] w' fun e w2 => e = .returned (.tuple #[.int .i64 ok1, .bool ob1]) ∧ Below w'.heap.size w' w2) := fun v' w' hr => by rw [E2, E3]; exact roldest_at l A R n v' w' (by omega) ok hA hn hr
  have RE : Hid (∀ v' w', RdP w' v' l → Calls Try.prog 7 #[v', .agg #[.int .i64 A, .int .i64 R], .int .i64 t, .int .i64 k] w' fun e w2 => e = .returned (.tuple #[.int .i64 rv, .bool rb]) ∧ Below w'.heap.size w' w2) := fun v' w' hr => by rw [E4, E5]; exact reach_at l A R t k n v' w' (by omega) ok hA hn hr
  have RRE : Hid (∀ v' w', RdP w' v' l → Calls Try.prog 8 #[v', .agg #[.int .i64 A, .int .i64 R], .int .i64 t, .int .i64 k] w' fun e w2 => e = .returned (.tuple #[.int .i64 rv, .bool rb]) ∧ Below w'.heap.size w' w2) := fun v' w' hr => by rw [E4, E5]; exact rreach_at l A R t k n v' w' (by omega) ok hA hn hr
  have DA : Hid (∀ v' w', RdP w' v' l → Calls Try.prog 31 #[v', .agg #[.int .i64 A, .int .i64 R], .int .i64 t] w' fun e w2 => e = .returned (.int .i64 dv) ∧ Below w'.heap.size w' w2) := fun v' w' hr => by rw [E6]; exact days_at l A R t n v' w' (by omega) ok hA ht hn hr
  have RDA : Hid (∀ v' w', RdP w' v' l → Calls Try.prog 32 #[v', .agg #[.int .i64 A, .int .i64 R], .int .i64 t] w' fun e w2 => e = .returned (.int .i64 dv) ∧ Below w'.heap.size w' w2) := fun v' w' hr => by rw [E6]; exact rdays_at l A R t n v' w' (by omega) ok hA ht hn hr
  have PD : Hid (∀ v' w', RdP w' v' l → Calls Try.prog 33 #[v', .agg #[.int .i64 A, .int .i64 R], .int .i64 t] w' fun e w2 => e = .returned (.int .i64 pv1) ∧ Below w'.heap.size w' w2) := fun v' w' hr => by rw [E7]; exact past_at l A R t c v' w' (by omega) ok hA ht hp hr
  have RPD : Hid (∀ v' w', RdP w' v' l → Calls Try.prog 34 #[v', .agg #[.int .i64 A, .int .i64 R], .int .i64 t] w' fun e w2 => e = .returned (.int .i64 pv1) ∧ Below w'.heap.size w' w2) := fun v' w' hr => by rw [E7]; exact rpast_at l A R t c v' w' (by omega) ok hA hp hr
  have CP : Hid (∀ w', Below w.heap.size w w' → Calls Try.prog 6 #[v] w' fun e w2 => ∃ v', e = .returned v' ∧ RowP w'.heap.size w2 v' l ∧ Below w'.heap.size w' w2) := fun w' hb => copied_at l v w' (by omega) (h.later hb)
  have MI : Hid (∀ v' w', RdP w' v' l → Calls Try.prog 11 #[v', .agg #[.int .i64 A, .int .i64 R], .int .i64 t, .int .i64 k] w' fun e w2 => ∃ v2, e = .returned v2 ∧ Row 3 w'.heap.size w2 v2 (mssL l n t k) ∧ Below w'.heap.size w' w2) := fun v' w' hr => miss_at l A R t k n v' w' (by omega) ok hA ht hn hr
  have RMI : Hid (∀ v' w', RdP w' v' l → Calls Try.prog 10 #[v', .agg #[.int .i64 A, .int .i64 R], .int .i64 t, .int .i64 k] w' fun e w2 => ∃ v2, e = .returned v2 ∧ Row 3 w'.heap.size w2 v2 (mssL l n t k) ∧ Below w'.heap.size w' w2) := fun v' w' hr => rmiss_at l A R t k n v' w' (by omega) ok hA ht hn hr
  have SR : Hid (∀ va vb w', Reads w' va (mssL l n t k) → Reads w' vb (mssL l n t k) → Calls Try.prog 12 #[va, vb] w' fun e w2 => e = .returned (.bool true) ∧ Below w'.heap.size w' w2) := fun va vb w' h1 h2 => (sameR_yes _ va vb w' (by
      unfold mssL nI; rw [List.length_map]
      have := msN_len (sP l) n t k (sP l).length
      have := sP_len l
      omega) h1 h2).mono fun e w2 ⟨he, m, hw⟩ => ⟨he, by rw [hw]; exact below_drewN (Below.refl _ _) m⟩
  have MA : Hid (∀ v' w', RdP w' v' l → Reads w' vr rows → Calls Try.prog 20 #[v', vr] w' fun e w2 => ∃ v2, e = .returned v2 ∧ RowP w'.heap.size w2 v2 (mkL l rows) ∧ Below w'.heap.size w' w2) := fun v' w' hr hr2 => mark_at l rows v' vr w' (by omega) (by omega) hr hr2
  have RMA : Hid (∀ v' w', RdP w' v' l → Reads w' vr rows → Calls Try.prog 15 #[v', vr] w' fun e w2 => ∃ v2, e = .returned v2 ∧ RowP w'.heap.size w2 v2 (mkL l rows) ∧ Below w'.heap.size w' w2) := fun v' w' hr hr2 => rmark_at l rows v' vr w' (by omega) (by omega) hr hr2
  have SPL : Hid (∀ va vb w', RdP w' va (mkL l rows) → RdP w' vb (mkL l rows) → Calls Try.prog 9 #[va, vb] w' fun e w2 => e = .returned (.bool true) ∧ Below w'.heap.size w' w2) := fun va vb w' h1 h2 => (sameP_yes _ va vb w' (by rw [mkL_len]; omega) h1 h2).mono fun e w2 ⟨he, m, hw⟩ => ⟨he, by rw [hw]; exact below_drewN (Below.refl _ _) m⟩
  have RD : Hid (∀ w', Below w.heap.size w w' → RdP w' v l ∧ Reads w' vr rows) := fun w' hb => ⟨h.later hb, hq.later hb⟩
  generalize mssL l n t k = ms at *
  generalize mkL l rows = ml at *
  clear E1 E2 E3 E4 E5 E6 E7 hn hp ok h hq
  have q1 : (sn != sn) = false := by simp
  have q2 : (ok1 != ok1) = false := by simp
  have q3 : (ob1 != ob1) = false := by simp
  have q4 : (rv != rv) = false := by simp
  have q5 : (rb != rb) = false := by simp
  have q6 : (dv != dv) = false := by simp
  have q7 : (pv1 != pv1) = false := by simp
  go_enter Try.func27, Try.ntmps27
  go_wp2_with fail
  refine (CP.out _ BC.out.1).mono ?_
  rintro e w2 ⟨v2, rfl, r2, b2⟩
  have HB : Hid (∀ w', Below w2.heap.size w2 w' → RdP w' v l ∧ RdP w' v2 l ∧ Reads w' vr rows) := fun w' hb => ⟨((RD.out _ (below_trans BC.out.1 b2)).1).later hb, r2.rd.later hb, ((RD.out _ (below_trans BC.out.1 b2)).2).later hb⟩
  have WB : Hid (Below w.heap.size w w2) := below_trans BC.out.1 b2
  have Bw2 : Hid (Below w2.heap.size w2 w2 ∧ w2.cell? ⟨w.heap.size, 0, none⟩ = some (.int .i64 A) ∧ w2.cell? ⟨w.heap.size, 1, none⟩ = some (.int .i64 R)) := ⟨Below.refl _ _, (heldP b2 BC.out).2.1, (heldP b2 BC.out).2.2⟩
  clear r2 b2 BC CP RD
  have p0 := Bw2.out.2.1
  have p1 := Bw2.out.2.2
  go_wp2_with fail
  refine (OL.out _ _ (HB.out _ Bw2.out.1).1).mono ?_
  rintro e w3 ⟨rfl, b⟩
  have Bw3 : Hid (Below w2.heap.size w2 w3 ∧ w3.cell? ⟨w.heap.size, 0, none⟩ = some (.int .i64 A) ∧ w3.cell? ⟨w.heap.size, 1, none⟩ = some (.int .i64 R)) := heldP b Bw2.out
  clear b Bw2 p0 p1
  have p0 := Bw3.out.2.1
  have p1 := Bw3.out.2.2
  go_wp2_with fail
  refine (ROL.out _ _ (HB.out _ Bw3.out.1).2.1).mono ?_
  rintro e w4 ⟨rfl, b⟩
  have Bw4 : Hid (Below w2.heap.size w2 w4 ∧ w4.cell? ⟨w.heap.size, 0, none⟩ = some (.int .i64 A) ∧ w4.cell? ⟨w.heap.size, 1, none⟩ = some (.int .i64 R)) := heldP b Bw3.out
  clear b Bw3 p0 p1
  have p0 := Bw4.out.2.1
  have p1 := Bw4.out.2.2
  go_wp2_with fail
  refine (RE.out _ _ (HB.out _ Bw4.out.1).1).mono ?_
  rintro e w5 ⟨rfl, b⟩
  have Bw5 : Hid (Below w2.heap.size w2 w5 ∧ w5.cell? ⟨w.heap.size, 0, none⟩ = some (.int .i64 A) ∧ w5.cell? ⟨w.heap.size, 1, none⟩ = some (.int .i64 R)) := heldP b Bw4.out
  clear b Bw4 p0 p1
  have p0 := Bw5.out.2.1
  have p1 := Bw5.out.2.2
  go_wp2_with fail
  refine (RRE.out _ _ (HB.out _ Bw5.out.1).2.1).mono ?_
  rintro e w6 ⟨rfl, b⟩
  have Bw6 : Hid (Below w2.heap.size w2 w6 ∧ w6.cell? ⟨w.heap.size, 0, none⟩ = some (.int .i64 A) ∧ w6.cell? ⟨w.heap.size, 1, none⟩ = some (.int .i64 R)) := heldP b Bw5.out
  clear b Bw5 p0 p1
  have p0 := Bw6.out.2.1
  have p1 := Bw6.out.2.2
  clear p0 p1 OL ROL RE RRE
  go_wp2_with fail
  go_region_held3 (fun w' => Below w2.heap.size w2 w' ∧ w'.cell? ⟨w.heap.size, 0, none⟩ = some (.int .i64 A) ∧ w'.cell? ⟨w.heap.size, 1, none⟩ = some (.int .i64 R)) (first | assumption | exact ⟨Below.drew Bw6.out.1, Bw6.out.2.1, Bw6.out.2.2⟩ | exact heldP hU (by assumption)) (first | (go_at_call 28; refine (SA.out _ _ (HB.out _ (And.left (by assumption))).1).mono ?_; rintro e w1 ⟨rfl, hU⟩) | (go_at_call 29; refine (RSA.out _ _ (HB.out _ (And.left (by assumption))).2.1).mono ?_; rintro e w1 ⟨rfl, hU⟩))
  have B7 : Hid (Below w2.heap.size w2 w1 ∧ w1.cell? ⟨w.heap.size, 0, none⟩ = some (.int .i64 A) ∧ w1.cell? ⟨w.heap.size, 1, none⟩ = some (.int .i64 R)) := by assumption
  clear Bw6 hU SA RSA
  go_wp2_with fail
  go_region_held3 (fun w' => Below w2.heap.size w2 w' ∧ w'.cell? ⟨w.heap.size, 0, none⟩ = some (.int .i64 A) ∧ w'.cell? ⟨w.heap.size, 1, none⟩ = some (.int .i64 R)) (first | assumption | exact ⟨Below.drew B7.out.1, B7.out.2.1, B7.out.2.2⟩ | exact heldP hU (by assumption)) (first | (go_at_call 31; refine (DA.out _ _ (HB.out _ (And.left (by assumption))).1).mono ?_; rintro e w1 ⟨rfl, hU⟩) | (go_at_call 32; refine (RDA.out _ _ (HB.out _ (And.left (by assumption))).2.1).mono ?_; rintro e w1 ⟨rfl, hU⟩) | (go_at_call 33; refine (PD.out _ _ (HB.out _ (And.left (by assumption))).1).mono ?_; rintro e w1 ⟨rfl, hU⟩) | (go_at_call 34; refine (RPD.out _ _ (HB.out _ (And.left (by assumption))).2.1).mono ?_; rintro e w1 ⟨rfl, hU⟩))
  have B8 : Hid (Below w2.heap.size w2 w1 ∧ w1.cell? ⟨w.heap.size, 0, none⟩ = some (.int .i64 A) ∧ w1.cell? ⟨w.heap.size, 1, none⟩ = some (.int .i64 R)) := by assumption
  clear B7 hU DA RDA PD RPD
  go_wp2_with fail
  go_region_held3 (fun w' => Below w2.heap.size w2 w' ∧ w'.cell? ⟨w.heap.size, 0, none⟩ = some (.int .i64 A) ∧ w'.cell? ⟨w.heap.size, 1, none⟩ = some (.int .i64 R)) (first | assumption | exact ⟨Below.drew B8.out.1, B8.out.2.1, B8.out.2.2⟩ | exact heldP hU (by assumption)) (first | (go_at_call 11; refine (MI.out _ _ (HB.out _ (And.left (by assumption))).1).mono ?_; rintro e w1 ⟨vm1, rfl, rm1, hU⟩) | (go_at_call 10; refine (RMI.out _ _ (HB.out _ (And.left (by assumption))).2.1).mono ?_; rintro e w1 ⟨vm2, rfl, rm2, hU⟩) | (go_at_call 12; refine (SR.out _ _ _ (rm1.reads.later hU) rm2.reads).mono ?_; rintro e w1 ⟨rfl, hU⟩) | (go_at_call 20; refine (MA.out _ _ (HB.out _ (And.left (by assumption))).1 (HB.out _ (And.left (by assumption))).2.2).mono ?_; rintro e w1 ⟨vk1, rfl, rk1, hU⟩) | (go_at_call 15; refine (RMA.out _ _ (HB.out _ (And.left (by assumption))).2.1 (HB.out _ (And.left (by assumption))).2.2).mono ?_; rintro e w1 ⟨vk2, rfl, rk2, hU⟩) | (go_at_call 9; refine (SPL.out _ _ _ (rk1.rd.later hU) rk2.rd).mono ?_; rintro e w1 ⟨rfl, hU⟩))
  have X9 : Below w2.heap.size w2 w1 ∧ w1.cell? ⟨w.heap.size, 0, none⟩ = some (.int .i64 A) ∧ w1.cell? ⟨w.heap.size, 1, none⟩ = some (.int .i64 R) := by assumption
  have B9 : Hid (Below w.heap.size w w1) := below_trans WB.out X9.1
  clear X9
  go_wp2_with fail
  go_ret
  exact ⟨rfl, B9.out⟩
end Go.Proofs.Ytekejcpgoijoaab
