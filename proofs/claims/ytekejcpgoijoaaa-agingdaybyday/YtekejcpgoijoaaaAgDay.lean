/-
  Ours: the walk of AgingDayByDay.
-/
import Derived.Test.YtekejcpgoijoaaaAgM2
import Derived.Test.YtekejcpgoijoaaaAgPast
import Derived.Test.YtekejcpgoijoaaaAgLaw
namespace Go.Proofs.Ytekejcpgoijoaaa
open Go.RowKit LedM AgM

namespace AgM
theorem past_mono {l : List Ins} {A R t t' : Int} {c c' : Nat} (hs : Snd l = true) (h0 : 0 < l.length) (hR : 0 < R) (ht : t ≤ t') (hp : Pre l t c) (hp' : Pre l t' c') : pdV l A R t c ≤ pdV l A R t' c' := by
  rw [pdV_in hR h0, pdV_in hR h0]
  have hcc : c ≤ c' := by
    by_cases e : c ≤ c'
    · exact e
    · have h1 := (hp.2 c' (by have := hp.1; omega)).2 (by omega)
      have h2 := (hp'.2 c' (by have := hp.1; omega)).1 (by omega)
      omega
  have hb := snd_mono hs hcc hp'.1
  by_cases hl : (iN l (l.length - 1)).d < t
  · rw [if_pos hl, if_pos (by omega)]; exact Int.le_refl _
  · rw [if_neg hl]
    split
    · exact clampV_le hR
    · exact clampV_mono (by omega) (Int.le_refl _) hR
end AgM

set_option maxRecDepth 20000 in
set_option maxHeartbeats 2000000 in
theorem day_any (l : List Ins) (A R t : Int) (v : Value) (w : World) (ok : ∀ x ∈ l, InsOk x) (hA : i64 A) (h : RdP w v l) :
    Calls Try.prog 5 #[v, .agg #[.int .i64 A, .int .i64 R], .int .i64 t] w fun e w' => e = .returned (.bool true) ∧ Below w.heap.size w w' := by
  have BC : Hid (Below w.heap.size w (w.alloc (.cells #[.int .i64 A, .int .i64 R] 24)) ∧ (w.alloc (.cells #[.int .i64 A, .int .i64 R] 24)).cell? ⟨w.heap.size, 0, none⟩ = some (.int .i64 A) ∧ (w.alloc (.cells #[.int .i64 A, .int .i64 R] 24)).cell? ⟨w.heap.size, 1, none⟩ = some (.int .i64 R)) := ⟨below_alloc w _, (Blk.new 24 [.int .i64 A, .int .i64 R] w).cell 0 _ rfl, (Blk.new 24 [.int .i64 A, .int .i64 R] w).cell 1 _ rfl⟩
  have SL : Hid (∀ w', Below w.heap.size w w' → Calls Try.prog 9 #[v] w' fun e w2 => e = .returned (.bool (decide (0 < l.length ∧ l.length ≤ 400 ∧ Snd l = true))) ∧ Below w'.heap.size w' w2) := fun w' hb => soundL_at l v w' ok (h.later hb)
  by_cases hc : 0 < l.length ∧ l.length ≤ 400 ∧ Snd l = true
  case neg =>
    rw [decide_eq_false hc] at SL
    clear hc h ok
    go_enter Try.func5, Try.ntmps5
    go_wp2_with fail
    refine (SL.out _ BC.out.1).mono ?_
    rintro e w2 ⟨rfl, b2⟩
    have B2 : Hid (Below w.heap.size w w2 ∧ w2.cell? ⟨w.heap.size, 0, none⟩ = some (.int .i64 A) ∧ w2.cell? ⟨w.heap.size, 1, none⟩ = some (.int .i64 R)) := heldP b2 BC.out
    have p1 := B2.out.2.2
    clear b2 BC SL
    go_wp2_with fail
    go_ret
    exact ⟨rfl, B2.out.1⟩
  case pos =>
    rw [decide_eq_true hc] at SL
    obtain ⟨l0, l4, hs⟩ := hc
    by_cases c0 : R ≤ 0
    · clear h ok hs
      go_enter Try.func5, Try.ntmps5
      go_wp2_with fail
      refine (SL.out _ BC.out.1).mono ?_
      rintro e w2 ⟨rfl, b2⟩
      have B2 : Hid (Below w.heap.size w w2 ∧ w2.cell? ⟨w.heap.size, 0, none⟩ = some (.int .i64 A) ∧ w2.cell? ⟨w.heap.size, 1, none⟩ = some (.int .i64 R)) := heldP b2 BC.out
      have p1 := B2.out.2.2
      clear b2 BC SL
      go_wp2_with fail
      go_ret
      exact ⟨rfl, B2.out.1⟩
    by_cases c1 : t < -1099511627776
    · clear h ok hs
      go_enter Try.func5, Try.ntmps5
      go_wp2_with fail
      refine (SL.out _ BC.out.1).mono ?_
      rintro e w2 ⟨rfl, b2⟩
      have B2 : Hid (Below w.heap.size w w2 ∧ w2.cell? ⟨w.heap.size, 0, none⟩ = some (.int .i64 A) ∧ w2.cell? ⟨w.heap.size, 1, none⟩ = some (.int .i64 R)) := heldP b2 BC.out
      have p1 := B2.out.2.2
      clear b2 BC SL
      go_wp2_with fail
      go_ret
      exact ⟨rfl, B2.out.1⟩
    by_cases c2 : 1099511627776 < t
    · clear h ok hs
      go_enter Try.func5, Try.ntmps5
      go_wp2_with fail
      refine (SL.out _ BC.out.1).mono ?_
      rintro e w2 ⟨rfl, b2⟩
      have B2 : Hid (Below w.heap.size w w2 ∧ w2.cell? ⟨w.heap.size, 0, none⟩ = some (.int .i64 A) ∧ w2.cell? ⟨w.heap.size, 1, none⟩ = some (.int .i64 R)) := heldP b2 BC.out
      have p1 := B2.out.2.2
      clear b2 BC SL
      go_wp2_with fail
      go_ret
      exact ⟨rfl, B2.out.1⟩
    obtain ⟨n, hn⟩ := SatF.ex l A R
    have hn1 : n < l.length := hn.lt.2 ⟨by omega, l0⟩
    obtain ⟨c, hp⟩ := Pre.ex hs t
    obtain ⟨c', hp'⟩ := Pre.ex hs (t + 1)
    have CP : Hid (∀ w', Below w.heap.size w w' → Calls Try.prog 11 #[v] w' fun e w2 => ∃ v', e = .returned v' ∧ RowP w'.heap.size w2 v' l ∧ Below w'.heap.size w' w2) := fun w' hb => copied_at l v w' (by omega) (h.later hb)
    have DA : Hid (∀ t' v' w', i64 t' → RdP w' v' l → Calls Try.prog 13 #[v', .agg #[.int .i64 A, .int .i64 R], .int .i64 t'] w' fun e w2 => e = .returned (.int .i64 (ltD (iN l n).d t')) ∧ Below w'.heap.size w' w2) := fun t' v' w' ht' hr => by have := days_at l A R t' n v' w' (by omega) ok hA ht' (by rw [sP_yes hs]; exact hn) hr; rwa [daysV_in hs hn1] at this
    have OL : Hid (∀ v' w', RdP w' v' l → Calls Try.prog 12 #[v', .agg #[.int .i64 A, .int .i64 R]] w' fun e w2 => e = .returned (.tuple #[.int .i64 (oldK n l.length), .bool (oldB n l.length)]) ∧ Below w'.heap.size w' w2) := fun v' w' hr => by have := oldest_at l A R n v' w' (by omega) ok hA (by rw [sP_yes hs]; exact hn) hr; rwa [sP_yes hs] at this
    have PX1 : Hid (∀ v' w', RdP w' v' l → Calls Try.prog 14 #[v', .agg #[.int .i64 A, .int .i64 R], .int .i64 (t)] w' fun e w2 => e = .returned (.int .i64 (pdV l A R (t) c)) ∧ Below w'.heap.size w' w2) := fun v' w' hr => by have := past_at l A R (t) c v' w' (by omega) ok hA ⟨by omega, by omega⟩ (by rw [sP_yes hs]; exact hp) hr; rwa [sP_yes hs] at this
    have PX2 : Hid (∀ v' w', RdP w' v' l → Calls Try.prog 14 #[v', .agg #[.int .i64 A, .int .i64 R], .int .i64 (t + 1)] w' fun e w2 => e = .returned (.int .i64 (pdV l A R (t + 1) c')) ∧ Below w'.heap.size w' w2) := fun v' w' hr => by have := past_at l A R (t + 1) c' v' w' (by omega) ok hA ⟨by omega, by omega⟩ (by rw [sP_yes hs]; exact hp') hr; rwa [sP_yes hs] at this
    have PM := past_mono (A := A) (R := R) hs l0 (by omega) (by omega) hp hp'
    have h' := h
    obtain ⟨ao, cap, rfl, -, -, -⟩ := h
    have CE : Hid (∀ w', Below w.heap.size w w' → ∀ i, i < l.length → ∃ g o, ao = some ⟨g, o, none⟩ ∧ w'.rangeAt g (o + i * 4) (insL (iN l i))) := h'.cells
    have e1 : oldK n l.length = n := by simp [oldK]; omega
    have e2 : oldB n l.length = true := by simp [oldB]; omega
    rw [e1, e2] at OL
    have DX1 : Hid (∀ v' w', RdP w' v' l → Calls Try.prog 13 #[v', .agg #[.int .i64 A, .int .i64 R], .int .i64 t] w' fun e w2 => e = .returned (.int .i64 (ltD (iN l n).d t)) ∧ Below w'.heap.size w' w2) := fun v' w' hr => DA.out t v' w' ⟨by omega, by omega⟩ hr
    have DX2 : Hid (∀ v' w', RdP w' v' l → Calls Try.prog 13 #[v', .agg #[.int .i64 A, .int .i64 R], .int .i64 (t + 1)] w' fun e w2 => e = .returned (.int .i64 (ltD (iN l n).d (t + 1))) ∧ Below w'.heap.size w' w2) := fun v' w' hr => DA.out (t + 1) v' w' ⟨by omega, by omega⟩ hr
    obtain ⟨x1, x2, -, -⟩ := snd_row hs hn1
    obtain ⟨x, HX⟩ : ∃ x, Hid ((iN l n).d = x) := ⟨_, rfl⟩
    rw [HX.out] at DX1 DX2 x1 x2
    have D1 : x ≤ t → ltD x (t + 1) = ltD x t + 1 := by unfold ltD; split <;> split <;> omega
    have D2 : ¬ x ≤ t → ltD x (t + 1) = 0 := by unfold ltD; split <;> omega
    have y0 := ltD_ge x t
    have y1 : ltD x t ≤ 1099511627776 := by unfold ltD; split <;> omega
    generalize ltD x t = d1 at *
    generalize ltD x (t + 1) = d2 at *
    generalize pdV l A R t c = u1 at *
    generalize pdV l A R (t + 1) c' = u2 at *
    have PX : Hid (∀ (u s : Int) v' w', ((u = t ∧ s = u1) ∨ (u = t + 1 ∧ s = u2)) → RdP w' v' l → Calls Try.prog 14 #[v', .agg #[.int .i64 A, .int .i64 R], .int .i64 u] w' fun e w2 => e = .returned (.int .i64 s) ∧ Below w'.heap.size w' w2) := fun u s v' w' hq hr => by
      rcases hq with ⟨rfl, rfl⟩ | ⟨rfl, rfl⟩
      · exact PX1.out v' w' hr
      · exact PX2.out v' w' hr
    clear PX1 PX2
    obtain ⟨L, hL⟩ : ∃ L, l.length = L := ⟨_, rfl⟩
    rw [hL] at SL CP CE l0 l4 hn1 ⊢
    have q1 : (n : Int) < (L : Int) := by omega
    have hw : IntKind.i64.wrap (t + 1) = t + 1 := by simp [IntKind.wrap, IntKind.bits, IntKind.signed]; omega
    have HD1 : Hid (x ≤ t → d2 = d1 + 1) := D1
    have HD2 : Hid (¬ x ≤ t → d2 = 0) := D2
    clear h' hs ok hn hL hp hp' e1 e2 DA D1 D2
    go_enter Try.func5, Try.ntmps5
    go_wp2_with fail
    refine (SL.out _ BC.out.1).mono ?_
    rintro e w2 ⟨rfl, b2⟩
    have B2 : Hid (Below w.heap.size w w2 ∧ w2.cell? ⟨w.heap.size, 0, none⟩ = some (.int .i64 A) ∧ w2.cell? ⟨w.heap.size, 1, none⟩ = some (.int .i64 R)) := heldP b2 BC.out
    have p1 := B2.out.2.2
    clear b2 BC SL
    go_wp2_with fail
    go_region_held3 (fun w' => Below w.heap.size w w' ∧ w'.cell? ⟨w.heap.size, 0, none⟩ = some (.int .i64 A) ∧ w'.cell? ⟨w.heap.size, 1, none⟩ = some (.int .i64 R)) (first | assumption | exact ⟨Below.drew B2.out.1, B2.out.2.1, B2.out.2.2⟩ | exact heldP hU (by assumption)) (first | (go_at_call 11; refine (CP.out _ (And.left (by assumption))).mono ?_; rintro e w1 ⟨v1, rfl, r1, hU⟩) | (go_at_call 12; refine (OL.out _ _ r1.rd).mono ?_; rintro e w1 ⟨rfl, hU⟩))
    have B3 : Hid (Below w.heap.size w w1 ∧ w1.cell? ⟨w.heap.size, 0, none⟩ = some (.int .i64 A) ∧ w1.cell? ⟨w.heap.size, 1, none⟩ = some (.int .i64 R)) := by assumption
    clear B2 p1 hU r1
    go_wp2_with fail
    go_region_held3 (fun w' => Below w.heap.size w w' ∧ w'.cell? ⟨w.heap.size, 0, none⟩ = some (.int .i64 A) ∧ w'.cell? ⟨w.heap.size, 1, none⟩ = some (.int .i64 R)) (first | assumption | exact ⟨Below.drew B3.out.1, B3.out.2.1, B3.out.2.2⟩ | exact heldP hU (by assumption)) (first | (go_at_call 11; refine (CP.out _ (And.left (by assumption))).mono ?_; rintro e w1 ⟨v1, rfl, r1, hU⟩) | (go_at_call 13; refine (DX1.out _ _ r1.rd).mono ?_; rintro e w1 ⟨rfl, hU⟩))
    have B4 : Hid (Below w.heap.size w w1 ∧ w1.cell? ⟨w.heap.size, 0, none⟩ = some (.int .i64 A) ∧ w1.cell? ⟨w.heap.size, 1, none⟩ = some (.int .i64 R)) := by assumption
    clear B3 hU r1
    go_wp2_with fail
    go_region_held3 (fun w' => Below w.heap.size w w' ∧ w'.cell? ⟨w.heap.size, 0, none⟩ = some (.int .i64 A) ∧ w'.cell? ⟨w.heap.size, 1, none⟩ = some (.int .i64 R)) (first | assumption | exact ⟨Below.drew B4.out.1, B4.out.2.1, B4.out.2.2⟩ | exact heldP hU (by assumption)) (first | (go_at_call 11; refine (CP.out _ (And.left (by assumption))).mono ?_; rintro e w1 ⟨v1, rfl, r1, hU⟩) | (go_at_call 13; refine (DX2.out _ _ r1.rd).mono ?_; rintro e w1 ⟨rfl, hU⟩))
    have B5 : Hid (Below w.heap.size w w1 ∧ w1.cell? ⟨w.heap.size, 0, none⟩ = some (.int .i64 A) ∧ w1.cell? ⟨w.heap.size, 1, none⟩ = some (.int .i64 R)) := by assumption
    clear B4 hU r1
    obtain ⟨g, o, rfl, rg⟩ := CE.out w1 B5.out.1 n hn1
    have c0' : w1.cell? ⟨g, o + n * 4, none⟩ = some (.int .i64 x) := by rw [← HX.out]; exact rg 0 _ rfl
    clear rg CE
    by_cases hd : x ≤ t
    · have e0 := HD1.out (by omega)
      have q2 : (d2 == d1 + 1) = true := by simp [e0]
      have q3 : decide (x ≤ t) = true := decide_eq_true hd
      clear e0
      go_wp2_with fail
      go_region_held3 (fun w' => Below w.heap.size w w' ∧ w'.cell? ⟨w.heap.size, 0, none⟩ = some (.int .i64 A) ∧ w'.cell? ⟨w.heap.size, 1, none⟩ = some (.int .i64 R)) (first | assumption | exact ⟨Below.drew B5.out.1, B5.out.2.1, B5.out.2.2⟩ | exact heldP hU (by assumption)) (first | (go_at_call 11; refine (CP.out _ (And.left (by assumption))).mono ?_; rintro e w1 ⟨v1, rfl, r1, hU⟩) | (go_at_call 14; refine (PX.out _ _ _ _ (by first | exact .inl ⟨rfl, rfl⟩ | exact .inr ⟨rfl, rfl⟩) r1.rd).mono ?_; rintro e w1 ⟨rfl, hU⟩))
      go_wp2_with fail
      go_ret
      exact ⟨rfl, And.left (by assumption)⟩
    · have e0 := HD2.out (by omega)
      have q2 : (d2 == 0) = true := by simp [e0]
      have q3 : decide (x ≤ t) = false := decide_eq_false hd
      clear e0
      go_wp2_with fail
      go_region_held3 (fun w' => Below w.heap.size w w' ∧ w'.cell? ⟨w.heap.size, 0, none⟩ = some (.int .i64 A) ∧ w'.cell? ⟨w.heap.size, 1, none⟩ = some (.int .i64 R)) (first | assumption | exact ⟨Below.drew B5.out.1, B5.out.2.1, B5.out.2.2⟩ | exact heldP hU (by assumption)) (first | (go_at_call 11; refine (CP.out _ (And.left (by assumption))).mono ?_; rintro e w1 ⟨v1, rfl, r1, hU⟩) | (go_at_call 14; refine (PX.out _ _ _ _ (by first | exact .inl ⟨rfl, rfl⟩ | exact .inr ⟨rfl, rfl⟩) r1.rd).mono ?_; rintro e w1 ⟨rfl, hU⟩))
      go_wp2_with fail
      go_ret
      exact ⟨rfl, And.left (by assumption)⟩
end Go.Proofs.Ytekejcpgoijoaaa
