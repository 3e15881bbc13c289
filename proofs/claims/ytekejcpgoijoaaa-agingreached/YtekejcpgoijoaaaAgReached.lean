/-
  Ours: the walk of AgingReached.
-/
import Derived.Test.YtekejcpgoijoaaaAgM2
import Derived.Test.YtekejcpgoijoaaaAgLaw
namespace Go.Proofs.Ytekejcpgoijoaaa
open Go.RowKit LedM AgM

set_option maxRecDepth 20000 in
set_option maxHeartbeats 2000000 in
theorem reached_any (l : List Ins) (A R t k z : Int) (v : Value) (w : World) (ok : ∀ x ∈ l, InsOk x) (hA : i64 A) (hz : i64 z) (h : RdP w v l) :
    Calls Try.prog 6 #[v, .agg #[.int .i64 A, .int .i64 R], .int .i64 t, .int .i64 k, .int .i64 z] w fun e w' => e = .returned (.bool true) ∧ Below w.heap.size w w' := by
  have BC : Hid (Below w.heap.size w (w.alloc (.cells #[.int .i64 A, .int .i64 R] 24)) ∧ (w.alloc (.cells #[.int .i64 A, .int .i64 R] 24)).cell? ⟨w.heap.size, 0, none⟩ = some (.int .i64 A) ∧ (w.alloc (.cells #[.int .i64 A, .int .i64 R] 24)).cell? ⟨w.heap.size, 1, none⟩ = some (.int .i64 R)) := ⟨below_alloc w _, (Blk.new 24 [.int .i64 A, .int .i64 R] w).cell 0 _ rfl, (Blk.new 24 [.int .i64 A, .int .i64 R] w).cell 1 _ rfl⟩
  have SL : Hid (∀ w', Below w.heap.size w w' → Calls Try.prog 9 #[v] w' fun e w2 => e = .returned (.bool (decide (0 < l.length ∧ l.length ≤ 400 ∧ Snd l = true))) ∧ Below w'.heap.size w' w2) := fun w' hb => soundL_at l v w' ok (h.later hb)
  by_cases hc : 0 < l.length ∧ l.length ≤ 400 ∧ Snd l = true
  case neg =>
    rw [decide_eq_false hc] at SL
    clear hc h ok
    go_enter Try.func6, Try.ntmps6
    go_wp2_with fail
    refine (SL.out _ BC.out.1).mono ?_
    rintro e w2 ⟨rfl, b2⟩
    have B2 : Hid (Below w.heap.size w w2 ∧ w2.cell? ⟨w.heap.size, 0, none⟩ = some (.int .i64 A) ∧ w2.cell? ⟨w.heap.size, 1, none⟩ = some (.int .i64 R)) := heldP b2 BC.out
    have p1 := B2.out.2.2
    clear b2 BC SL
    go_wp2_with fail
    go_ret
    exact ⟨rfl, B2.out.1⟩
  case pos =>
    rw [decide_eq_true hc] at SL
    obtain ⟨l0, l4, hs⟩ := hc
    by_cases c0 : R ≤ 0
    · clear h ok hs
      go_enter Try.func6, Try.ntmps6
      go_wp2_with fail
      refine (SL.out _ BC.out.1).mono ?_
      rintro e w2 ⟨rfl, b2⟩
      have B2 : Hid (Below w.heap.size w w2 ∧ w2.cell? ⟨w.heap.size, 0, none⟩ = some (.int .i64 A) ∧ w2.cell? ⟨w.heap.size, 1, none⟩ = some (.int .i64 R)) := heldP b2 BC.out
      have p1 := B2.out.2.2
      clear b2 BC SL
      go_wp2_with fail
      go_ret
      exact ⟨rfl, B2.out.1⟩
    by_cases c1 : t < 0
    · clear h ok hs
      go_enter Try.func6, Try.ntmps6
      go_wp2_with fail
      refine (SL.out _ BC.out.1).mono ?_
      rintro e w2 ⟨rfl, b2⟩
      have B2 : Hid (Below w.heap.size w w2 ∧ w2.cell? ⟨w.heap.size, 0, none⟩ = some (.int .i64 A) ∧ w2.cell? ⟨w.heap.size, 1, none⟩ = some (.int .i64 R)) := heldP b2 BC.out
      have p1 := B2.out.2.2
      clear b2 BC SL
      go_wp2_with fail
      go_ret
      exact ⟨rfl, B2.out.1⟩
    by_cases c2 : 3652059 < t
    · clear h ok hs
      go_enter Try.func6, Try.ntmps6
      go_wp2_with fail
      refine (SL.out _ BC.out.1).mono ?_
      rintro e w2 ⟨rfl, b2⟩
      have B2 : Hid (Below w.heap.size w w2 ∧ w2.cell? ⟨w.heap.size, 0, none⟩ = some (.int .i64 A) ∧ w2.cell? ⟨w.heap.size, 1, none⟩ = some (.int .i64 R)) := heldP b2 BC.out
      have p1 := B2.out.2.2
      clear b2 BC SL
      go_wp2_with fail
      go_ret
      exact ⟨rfl, B2.out.1⟩
    by_cases c3 : k < 1
    · clear h ok hs
      go_enter Try.func6, Try.ntmps6
      go_wp2_with fail
      refine (SL.out _ BC.out.1).mono ?_
      rintro e w2 ⟨rfl, b2⟩
      have B2 : Hid (Below w.heap.size w w2 ∧ w2.cell? ⟨w.heap.size, 0, none⟩ = some (.int .i64 A) ∧ w2.cell? ⟨w.heap.size, 1, none⟩ = some (.int .i64 R)) := heldP b2 BC.out
      have p1 := B2.out.2.2
      clear b2 BC SL
      go_wp2_with fail
      go_ret
      exact ⟨rfl, B2.out.1⟩
    by_cases c4 : 3652059 < k
    · clear h ok hs
      go_enter Try.func6, Try.ntmps6
      go_wp2_with fail
      refine (SL.out _ BC.out.1).mono ?_
      rintro e w2 ⟨rfl, b2⟩
      have B2 : Hid (Below w.heap.size w w2 ∧ w2.cell? ⟨w.heap.size, 0, none⟩ = some (.int .i64 A) ∧ w2.cell? ⟨w.heap.size, 1, none⟩ = some (.int .i64 R)) := heldP b2 BC.out
      have p1 := B2.out.2.2
      clear b2 BC SL
      go_wp2_with fail
      go_ret
      exact ⟨rfl, B2.out.1⟩
    obtain ⟨n, hn⟩ := SatF.ex l A R
    have hn1 : n < l.length := hn.lt.2 ⟨by omega, l0⟩
    have eB : rchB l n t k = true := by unfold rchB; rw [sP_yes hs]; exact decide_eq_true ⟨hn1, by omega, by omega, by omega, by omega⟩
    have eV : rchV l n t k = if (iN l n).d + k < t + 1 then t + 1 else (iN l n).d + k := by unfold rchV; rw [eB]; rfl
    have CP : Hid (∀ w', Below w.heap.size w w' → Calls Try.prog 11 #[v] w' fun e w2 => ∃ v', e = .returned v' ∧ RowP w'.heap.size w2 v' l ∧ Below w'.heap.size w' w2) := fun w' hb => copied_at l v w' (by omega) (h.later hb)
    have DA : Hid (∀ t' v' w', i64 t' → RdP w' v' l → Calls Try.prog 13 #[v', .agg #[.int .i64 A, .int .i64 R], .int .i64 t'] w' fun e w2 => e = .returned (.int .i64 (ltD (iN l n).d t')) ∧ Below w'.heap.size w' w2) := fun t' v' w' ht' hr => by have := days_at l A R t' n v' w' (by omega) ok hA ht' (by rw [sP_yes hs]; exact hn) hr; rwa [daysV_in hs hn1] at this
    have RE : Hid (∀ v' w', RdP w' v' l → Calls Try.prog 15 #[v', .agg #[.int .i64 A, .int .i64 R], .int .i64 t, .int .i64 k] w' fun e w2 => e = .returned (.tuple #[.int .i64 (rchV l n t k), .bool (rchB l n t k)]) ∧ Below w'.heap.size w' w2) := fun v' w' hr => reach_at l A R t k n v' w' (by omega) ok hA (by rw [sP_yes hs]; exact hn) hr
    rw [eB, eV] at RE
    obtain ⟨x1, x2, -, -⟩ := snd_row hs hn1
    clear eB eV hs ok hn hn1 h l0
    generalize (iN l n).d = x at *
    generalize hd : (if x + k < t + 1 then t + 1 else x + k) = d at *
    have d1 : t < d := by rw [← hd]; split <;> omega
    have d2 : d ≤ 7304118 := by rw [← hd]; split <;> omega
    have d3 : k ≤ ltD x d := by unfold ltD; rw [← hd]; split <;> split <;> omega
    have D4 : t < d - 1 → ltD x (d - 1) < k := by unfold ltD; rw [← hd]; split <;> split <;> omega
    have D5 : ¬ z ≤ t → ¬ d ≤ z → ltD x z < k := by unfold ltD; rw [← hd]; split <;> split <;> omega
    have DX1 : Hid (∀ v' w', RdP w' v' l → Calls Try.prog 13 #[v', .agg #[.int .i64 A, .int .i64 R], .int .i64 d] w' fun e w2 => e = .returned (.int .i64 (ltD x d)) ∧ Below w'.heap.size w' w2) := fun v' w' hr => DA.out d v' w' ⟨by omega, by omega⟩ hr
    have DX2 : Hid (∀ v' w', RdP w' v' l → Calls Try.prog 13 #[v', .agg #[.int .i64 A, .int .i64 R], .int .i64 (d - 1)] w' fun e w2 => e = .returned (.int .i64 (ltD x (d - 1))) ∧ Below w'.heap.size w' w2) := fun v' w' hr => DA.out (d - 1) v' w' ⟨by omega, by omega⟩ hr
    have DX3 : Hid (∀ v' w', RdP w' v' l → Calls Try.prog 13 #[v', .agg #[.int .i64 A, .int .i64 R], .int .i64 z] w' fun e w2 => e = .returned (.int .i64 (ltD x z)) ∧ Below w'.heap.size w' w2) := fun v' w' hr => DA.out z v' w' hz hr
    clear DA hd
    generalize ltD x d = y1 at *
    generalize ltD x (d - 1) = y2 at *
    generalize ltD x z = y3 at *
    have HD4 : Hid (t < d - 1 → y2 < k) := D4
    have HD5 : Hid (¬ z ≤ t → ¬ d ≤ z → y3 < k) := D5
    have q1 : ¬ y1 < k := by omega
    have q2 : ¬ d ≤ t := by omega
    have q3 : ¬ 7304118 < d := by omega
    have hw : IntKind.i64.wrap (d - 1) = d - 1 := by simp [IntKind.wrap, IntKind.bits, IntKind.signed]; omega
    clear D4 D5 d3
    go_enter Try.func6, Try.ntmps6
    go_wp2_with fail
    refine (SL.out _ BC.out.1).mono ?_
    rintro e w2 ⟨rfl, b2⟩
    have B2 : Hid (Below w.heap.size w w2 ∧ w2.cell? ⟨w.heap.size, 0, none⟩ = some (.int .i64 A) ∧ w2.cell? ⟨w.heap.size, 1, none⟩ = some (.int .i64 R)) := heldP b2 BC.out
    have p1 := B2.out.2.2
    clear b2 BC SL
    go_wp2_with fail
    go_region_held3 (fun w' => Below w.heap.size w w' ∧ w'.cell? ⟨w.heap.size, 0, none⟩ = some (.int .i64 A) ∧ w'.cell? ⟨w.heap.size, 1, none⟩ = some (.int .i64 R)) (first | assumption | exact ⟨Below.drew B2.out.1, B2.out.2.1, B2.out.2.2⟩ | exact heldP hU (by assumption)) (first | (go_at_call 11; refine (CP.out _ (And.left (by assumption))).mono ?_; rintro e w1 ⟨v1, rfl, r1, hU⟩) | (go_at_call 15; refine (RE.out _ _ r1.rd).mono ?_; rintro e w1 ⟨rfl, hU⟩))
    have B3 : Hid (Below w.heap.size w w1 ∧ w1.cell? ⟨w.heap.size, 0, none⟩ = some (.int .i64 A) ∧ w1.cell? ⟨w.heap.size, 1, none⟩ = some (.int .i64 R)) := by assumption
    clear B2 p1 hU r1
    go_wp2_with fail
    go_region_held3 (fun w' => Below w.heap.size w w' ∧ w'.cell? ⟨w.heap.size, 0, none⟩ = some (.int .i64 A) ∧ w'.cell? ⟨w.heap.size, 1, none⟩ = some (.int .i64 R)) (first | assumption | exact ⟨Below.drew B3.out.1, B3.out.2.1, B3.out.2.2⟩ | exact heldP hU (by assumption)) (first | (go_at_call 11; refine (CP.out _ (And.left (by assumption))).mono ?_; rintro e w1 ⟨v1, rfl, r1, hU⟩) | (go_at_call 13; refine (DX1.out _ _ r1.rd).mono ?_; rintro e w1 ⟨rfl, hU⟩))
    have B4 : Hid (Below w.heap.size w w1 ∧ w1.cell? ⟨w.heap.size, 0, none⟩ = some (.int .i64 A) ∧ w1.cell? ⟨w.heap.size, 1, none⟩ = some (.int .i64 R)) := by assumption
    clear B3 hU r1
    by_cases c8 : t < d - 1
    · have q4 := HD4.out (by omega)
      have q5 : ¬ k ≤ y2 := by omega
      have q6 : decide (t < d - 1) = true := decide_eq_true c8
      go_wp2_with fail
      go_region_held3 (fun w' => Below w.heap.size w w' ∧ w'.cell? ⟨w.heap.size, 0, none⟩ = some (.int .i64 A) ∧ w'.cell? ⟨w.heap.size, 1, none⟩ = some (.int .i64 R)) (first | assumption | exact ⟨Below.drew B4.out.1, B4.out.2.1, B4.out.2.2⟩ | exact heldP hU (by assumption)) (first | (go_at_call 11; refine (CP.out _ (And.left (by assumption))).mono ?_; rintro e w1 ⟨v1, rfl, r1, hU⟩) | (go_at_call 13; refine (DX2.out _ _ r1.rd).mono ?_; rintro e w1 ⟨rfl, hU⟩))
      have B5 : Hid (Below w.heap.size w w1 ∧ w1.cell? ⟨w.heap.size, 0, none⟩ = some (.int .i64 A) ∧ w1.cell? ⟨w.heap.size, 1, none⟩ = some (.int .i64 R)) := by assumption
      clear B4 hU r1
      by_cases c9 : z ≤ t
      · have q7 : decide (z ≤ t) = true := decide_eq_true c9
        go_wp2_with fail
        go_quiet (fail)
        go_wp2_with fail
        go_ret
        exact ⟨rfl, below_drewN B5.out.1 _⟩
      · have q7 : decide (z ≤ t) = false := decide_eq_false c9
        by_cases c10 : d ≤ z
        · have q8 : decide (d ≤ z) = true := decide_eq_true c10
          go_wp2_with fail
          go_quiet (fail)
          go_wp2_with fail
          go_ret
          exact ⟨rfl, below_drewN B5.out.1 _⟩
        · have q8 : decide (d ≤ z) = false := decide_eq_false c10
          have q9 := HD5.out (by omega) (by omega)
          go_wp2_with fail
          go_region_held3 (fun w' => Below w.heap.size w w' ∧ w'.cell? ⟨w.heap.size, 0, none⟩ = some (.int .i64 A) ∧ w'.cell? ⟨w.heap.size, 1, none⟩ = some (.int .i64 R)) (first | assumption | exact ⟨Below.drew B5.out.1, B5.out.2.1, B5.out.2.2⟩ | exact heldP hU (by assumption)) (first | (go_at_call 11; refine (CP.out _ (And.left (by assumption))).mono ?_; rintro e w1 ⟨v1, rfl, r1, hU⟩) | (go_at_call 13; refine (DX3.out _ _ r1.rd).mono ?_; rintro e w1 ⟨rfl, hU⟩))
          go_wp2_with fail
          go_ret
          exact ⟨rfl, And.left (by assumption)⟩
    · have q6 : decide (t < d - 1) = false := decide_eq_false c8
      go_wp2_with fail
      go_quiet (fail)
      have B5 : Hid (Below w.heap.size w (w1.drewN nq) ∧ (w1.drewN nq).cell? ⟨w.heap.size, 0, none⟩ = some (.int .i64 A) ∧ (w1.drewN nq).cell? ⟨w.heap.size, 1, none⟩ = some (.int .i64 R)) := ⟨below_drewN B4.out.1 _, B4.out.2.1, B4.out.2.2⟩
      clear B4
      generalize w1.drewN nq = w1 at *
      by_cases c9 : z ≤ t
      · have q7 : decide (z ≤ t) = true := decide_eq_true c9
        go_wp2_with fail
        go_quiet (fail)
        go_wp2_with fail
        go_ret
        exact ⟨rfl, below_drewN B5.out.1 _⟩
      · have q7 : decide (z ≤ t) = false := decide_eq_false c9
        by_cases c10 : d ≤ z
        · have q8 : decide (d ≤ z) = true := decide_eq_true c10
          go_wp2_with fail
          go_quiet (fail)
          go_wp2_with fail
          go_ret
          exact ⟨rfl, below_drewN B5.out.1 _⟩
        · have q8 : decide (d ≤ z) = false := decide_eq_false c10
          have q9 := HD5.out (by omega) (by omega)
          go_wp2_with fail
          go_region_held3 (fun w' => Below w.heap.size w w' ∧ w'.cell? ⟨w.heap.size, 0, none⟩ = some (.int .i64 A) ∧ w'.cell? ⟨w.heap.size, 1, none⟩ = some (.int .i64 R)) (first | assumption | exact ⟨Below.drew B5.out.1, B5.out.2.1, B5.out.2.2⟩ | exact heldP hU (by assumption)) (first | (go_at_call 11; refine (CP.out _ (And.left (by assumption))).mono ?_; rintro e w1 ⟨v1, rfl, r1, hU⟩) | (go_at_call 13; refine (DX3.out _ _ r1.rd).mono ?_; rintro e w1 ⟨rfl, hU⟩))
          go_wp2_with fail
          go_ret
          exact ⟨rfl, And.left (by assumption)⟩
end Go.Proofs.Ytekejcpgoijoaaa
