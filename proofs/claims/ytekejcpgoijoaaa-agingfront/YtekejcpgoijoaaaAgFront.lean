/-
  Ours: the walk of AgingFront.
-/
import Derived.Test.YtekejcpgoijoaaaAgOld
import Derived.Test.YtekejcpgoijoaaaAgLaw
namespace Go.Proofs.Ytekejcpgoijoaaa
open Go.RowKit LedM AgM

set_option maxRecDepth 20000 in
set_option maxHeartbeats 2000000 in
theorem front_any (l : List Ins) (A R : Int) (v : Value) (w : World) (ok : ∀ x ∈ l, InsOk x) (hA : i64 A) (h : RdP w v l) :
    Calls Try.prog 3 #[v, .agg #[.int .i64 A, .int .i64 R]] w fun e w' => e = .returned (.bool true) ∧ Below w.heap.size w w' := by
  have BC : Hid (Below w.heap.size w (w.alloc (.cells #[.int .i64 A, .int .i64 R] 24)) ∧ (w.alloc (.cells #[.int .i64 A, .int .i64 R] 24)).cell? ⟨w.heap.size, 0, none⟩ = some (.int .i64 A) ∧ (w.alloc (.cells #[.int .i64 A, .int .i64 R] 24)).cell? ⟨w.heap.size, 1, none⟩ = some (.int .i64 R)) := ⟨below_alloc w _, (Blk.new 24 [.int .i64 A, .int .i64 R] w).cell 0 _ rfl, (Blk.new 24 [.int .i64 A, .int .i64 R] w).cell 1 _ rfl⟩
  have SL : Hid (∀ w', Below w.heap.size w w' → Calls Try.prog 9 #[v] w' fun e w2 => e = .returned (.bool (decide (0 < l.length ∧ l.length ≤ 400 ∧ Snd l = true))) ∧ Below w'.heap.size w' w2) := fun w' hb => soundL_at l v w' ok (h.later hb)
  by_cases hc : 0 < l.length ∧ l.length ≤ 400 ∧ Snd l = true
  case neg =>
    rw [decide_eq_false hc] at SL
    clear hc h ok
    go_enter Try.func3, Try.ntmps3
    go_wp2_with fail
    refine (SL.out _ BC.out.1).mono ?_
    rintro e w2 ⟨rfl, b2⟩
    have B2 : Hid (Below w.heap.size w w2) := below_trans BC.out.1 b2
    clear b2 BC SL
    go_wp2_with fail
    go_ret
    exact ⟨rfl, B2.out⟩
  case pos =>
    rw [decide_eq_true hc] at SL
    obtain ⟨l0, l4, hs⟩ := hc
    obtain ⟨n, hn⟩ := SatF.ex l A R
    have hle := hn.le
    have hlt := hn.lt
    have CP : Hid (∀ w', Below w.heap.size w w' → Calls Try.prog 11 #[v] w' fun e w2 => ∃ v', e = .returned v' ∧ RowP w'.heap.size w2 v' l ∧ Below w'.heap.size w' w2) := fun w' hb => copied_at l v w' (by omega) (h.later hb)
    have SA : Hid (∀ v' w', RdP w' v' l → Calls Try.prog 10 #[v', .agg #[.int .i64 A, .int .i64 R]] w' fun e w2 => e = .returned (.int .i64 (n : Int)) ∧ Below w'.heap.size w' w2) := fun v' w' hr => satisfied_at l A R n v' w' (by omega) ok hA (by rw [sP_yes hs]; exact hn) hr
    have OL : Hid (∀ v' w', RdP w' v' l → Calls Try.prog 12 #[v', .agg #[.int .i64 A, .int .i64 R]] w' fun e w2 => e = .returned (.tuple #[.int .i64 (oldK n l.length), .bool (oldB n l.length)]) ∧ Below w'.heap.size w' w2) := fun v' w' hr => by have := oldest_at l A R n v' w' (by omega) ok hA (by rw [sP_yes hs]; exact hn) hr; rwa [sP_yes hs] at this
    have ROW : Hid (∀ k, k < l.length → 0 ≤ (iN l k).i ∧ 0 ≤ (iN l k).p ∧ bef l (k + 1) = bef l k + (iN l k).i + (iN l k).p ∧ 0 ≤ bef l k) := fun k hk => ⟨(snd_row hs hk).2.2.1, (snd_row hs hk).2.2.2, bef_succ hk, (snd_bef hs (by omega)).1⟩
    have BFN : Hid (∀ k, n < l.length → k ≤ n → bef l k ≤ pd A) := fun k hn' hk => by
      have := hn.sat hn'
      have := snd_mono hs (j := k) (k := n) hk (by omega)
      unfold Sat at *; omega
    have NXT : Hid (n < l.length → n + 1 ≠ l.length → pd A < bef l (n + 1)) := fun hn' hk => by
      have := (hn.sat hn').2.2
      omega
    have h' := h
    obtain ⟨ao, cap, rfl, -, -, -⟩ := h
    have CE : Hid (∀ w', Below w.heap.size w w' → ∀ i, i < l.length → ∃ g o, ao = some ⟨g, o, none⟩ ∧ w'.rangeAt g (o + i * 4) (insL (iN l i))) := h'.cells
    have OKI : Hid (∀ k, InsOk (iN l k)) := fun k => iN_ok ok k
    have P0 := pd_ge A
    have P1 := pd_le hA
    have PD : Hid (pd A = if A < 0 then 0 else A) := rfl
    obtain ⟨L, hL⟩ : ∃ L, l.length = L := ⟨_, rfl⟩
    rw [hL] at SL CP OL ROW BFN NXT CE l0 l4 hle hlt ⊢
    clear h' hs ok hn hL
    by_cases c : 0 < R
    · have hn1 : n < L := hlt.2 ⟨c, by omega⟩
      have e1 : oldK n L = n := by simp [oldK]; omega
      have e2 : oldB n L = true := by simp [oldB]; omega
      rw [e1, e2] at OL
      have q1 : ((n : Int) != (n : Int)) = false := by simp
      have q2 : ¬ R ≤ 0 := by omega
      have q3 : (n : Int) < (L : Int) := by omega
      have BFN' : Hid (∀ k, k ≤ n → bef l k ≤ pd A) := fun k hk => BFN.out k hn1 hk
      have NXT' : Hid (n + 1 ≠ L → pd A < bef l (n + 1)) := NXT.out hn1
      clear e1 e2 hlt BFN NXT hle
      go_enter Try.func3, Try.ntmps3
      go_wp2_with fail
      refine (SL.out _ BC.out.1).mono ?_
      rintro e w2 ⟨rfl, b2⟩
      have B2 : Hid (Below w.heap.size w w2 ∧ w2.cell? ⟨w.heap.size, 0, none⟩ = some (.int .i64 A) ∧ w2.cell? ⟨w.heap.size, 1, none⟩ = some (.int .i64 R)) := heldP b2 BC.out
      clear b2 BC SL
      go_wp2_with fail
      go_region_held3 (fun w' => Below w.heap.size w w' ∧ w'.cell? ⟨w.heap.size, 0, none⟩ = some (.int .i64 A) ∧ w'.cell? ⟨w.heap.size, 1, none⟩ = some (.int .i64 R)) (first | assumption | exact ⟨Below.drew B2.out.1, B2.out.2.1, B2.out.2.2⟩ | exact heldP hU (by assumption)) (first | (go_at_call 11; refine (CP.out _ (And.left (by assumption))).mono ?_; rintro e w1 ⟨v1, rfl, r1, hU⟩) | (go_at_call 10; refine (SA.out _ _ r1.rd).mono ?_; rintro e w1 ⟨rfl, hU⟩))
      have B3 : Hid (Below w.heap.size w w1 ∧ w1.cell? ⟨w.heap.size, 0, none⟩ = some (.int .i64 A) ∧ w1.cell? ⟨w.heap.size, 1, none⟩ = some (.int .i64 R)) := by assumption
      clear B2 hU r1
      go_wp2_with fail
      go_region_held3 (fun w' => Below w.heap.size w w' ∧ w'.cell? ⟨w.heap.size, 0, none⟩ = some (.int .i64 A) ∧ w'.cell? ⟨w.heap.size, 1, none⟩ = some (.int .i64 R)) (first | assumption | exact ⟨Below.drew B3.out.1, B3.out.2.1, B3.out.2.2⟩ | exact heldP hU (by assumption)) (first | (go_at_call 11; refine (CP.out _ (And.left (by assumption))).mono ?_; rintro e w1 ⟨v1, rfl, r1, hU⟩) | (go_at_call 12; refine (OL.out _ _ r1.rd).mono ?_; rintro e w1 ⟨rfl, hU⟩))
      have B4 : Hid (Below w.heap.size w w1 ∧ w1.cell? ⟨w.heap.size, 0, none⟩ = some (.int .i64 A) ∧ w1.cell? ⟨w.heap.size, 1, none⟩ = some (.int .i64 R)) := by assumption
      clear B3 hU r1
      by_cases a0 : A < 0
      · have e3 : pd A = 0 := by have := PD.out; rwa [if_pos a0] at this
        have p0 := B4.out.2.1
        have p1 := B4.out.2.2
        have WB : Hid (Below w.heap.size w w1) := B4.out.1
        have E3 : Hid (pd A = 0) := e3
        clear e3 PD B4
        generalize pd A = P at *
        go_wp2_with fail
        go_loopw [8, 9] (fun vl vk wr => ∃ (k : Nat) (q : Int), vk = .int .i64 (k : Int) ∧ k ≤ n ∧ vl = .int .i64 q ∧ Hid (q = P - bef l k) ∧ wr = w1) (fun _ vk _ => n - (intOf vk).toNat)
        case atStart => exact ⟨0, _, rfl, by omega, rfl, by show _ = _; rw [bef_zero, E3.out]; omega, rfl⟩
        case round =>
          obtain ⟨k, q, rfl, hk, rfl, QE, rfl⟩ := hrel
          by_cases hlt : (k : Int) < (n : Int)
          · obtain ⟨g, o, rfl, rg⟩ := CE.out wr WB.out k (by omega)
            have c1 : wr.cell? ⟨g, o + k * 4 + 1, none⟩ = some (.int .i64 (iN l k).i) := rg 1 _ rfl
            have c2 : wr.cell? ⟨g, o + k * 4 + 2, none⟩ = some (.int .i64 (iN l k).p) := rg 2 _ rfl
            obtain ⟨r1, r2, r3, r4⟩ := ROW.out k (by omega)
            have r5 := BFN'.out (k + 1) (by omega)
            have qe := QE.out
            have R3 : Hid (q - (iN l k).i - (iN l k).p = P - bef l (k + 1)) := by show _ = _; omega
            have kl : (k : Int) < (L : Int) := by omega
            have z1 : ¬ q - (iN l k).i - (iN l k).p < 0 := by omega
            have y11 : -9223372036854775808 ≤ q - (iN l k).i := by omega
            have y12 : q - (iN l k).i ≤ 9223372036854775807 := by omega
            have y22 : q - (iN l k).i - (iN l k).p ≤ 9223372036854775807 := by omega
            clear rg ROW BFN' NXT' CE r3 r5 qe r4 QE
            generalize (iN l k).i = xi at *
            generalize (iN l k).p = xp at *
            go_wp2_with fail
            go_roundw
            case rel => exact ⟨k + 1, _, by go_num, by omega, rfl, R3.out, by trivial⟩
            case measure => simp [intOf]; omega
          · obtain rfl : k = n := by omega
            by_cases en : k + 1 = L
            · have en1 : ((k : Int) == (L : Int) - 1) = true := by simp; omega
              clear ROW BFN' NXT' CE
              go_wp2_with fail
              go_ret
              exact ⟨rfl, WB.out⟩
            · have en1 : ((k : Int) == (L : Int) - 1) = false := by simp; omega
              obtain ⟨g, o, rfl, rg⟩ := CE.out wr WB.out k (by omega)
              have c1 : wr.cell? ⟨g, o + k * 4 + 1, none⟩ = some (.int .i64 (iN l k).i) := rg 1 _ rfl
              have c2 : wr.cell? ⟨g, o + k * 4 + 2, none⟩ = some (.int .i64 (iN l k).p) := rg 2 _ rfl
              obtain ⟨r1, r2, r3, r4⟩ := ROW.out k (by omega)
              have r5 := BFN'.out k (by omega)
              have r6 := NXT'.out en
              have qe := QE.out
              have d1 : q - (iN l k).i < (iN l k).p := by omega
              have q0 : 0 ≤ q := by omega
              have q1 : q ≤ 9223372036854775807 := by omega
              have rM : (iN l k).i ≤ 9223372036854775807 := (OKI.out k).2.1.2
              clear rg ROW BFN' NXT' CE r3 r5 r6 qe r4 QE
              generalize (iN l k).i = xi at *
              generalize (iN l k).p = xp at *
              have hw : IntKind.i64.wrap (q - xi) = q - xi := by simp [IntKind.wrap, IntKind.bits, IntKind.signed]; omega
              by_cases d0 : q < xi
              · have d2 : decide (q < xi) = true := decide_eq_true d0
                go_wp2_with fail
                go_quiet (fail)
                go_wp2_with fail
                go_ret
                exact ⟨rfl, below_drewN WB.out _⟩
              · have d2 : decide (q < xi) = false := decide_eq_false d0
                go_wp2_with fail
                go_quiet (fail)
                go_wp2_with fail
                go_ret
                exact ⟨rfl, below_drewN WB.out _⟩
      · have e3 : pd A = A := by have := PD.out; rwa [if_neg a0] at this
        have p0 := B4.out.2.1
        have p1 := B4.out.2.2
        have WB : Hid (Below w.heap.size w w1) := B4.out.1
        have E3 : Hid (pd A = A) := e3
        clear e3 PD B4
        generalize pd A = P at *
        go_wp2_with fail
        go_loopw [8, 9] (fun vl vk wr => ∃ (k : Nat) (q : Int), vk = .int .i64 (k : Int) ∧ k ≤ n ∧ vl = .int .i64 q ∧ Hid (q = P - bef l k) ∧ wr = w1) (fun _ vk _ => n - (intOf vk).toNat)
        case atStart => exact ⟨0, _, rfl, by omega, rfl, by show _ = _; rw [bef_zero, E3.out]; omega, rfl⟩
        case round =>
          obtain ⟨k, q, rfl, hk, rfl, QE, rfl⟩ := hrel
          by_cases hlt : (k : Int) < (n : Int)
          · obtain ⟨g, o, rfl, rg⟩ := CE.out wr WB.out k (by omega)
            have c1 : wr.cell? ⟨g, o + k * 4 + 1, none⟩ = some (.int .i64 (iN l k).i) := rg 1 _ rfl
            have c2 : wr.cell? ⟨g, o + k * 4 + 2, none⟩ = some (.int .i64 (iN l k).p) := rg 2 _ rfl
            obtain ⟨r1, r2, r3, r4⟩ := ROW.out k (by omega)
            have r5 := BFN'.out (k + 1) (by omega)
            have qe := QE.out
            have R3 : Hid (q - (iN l k).i - (iN l k).p = P - bef l (k + 1)) := by show _ = _; omega
            have kl : (k : Int) < (L : Int) := by omega
            have z1 : ¬ q - (iN l k).i - (iN l k).p < 0 := by omega
            have y11 : -9223372036854775808 ≤ q - (iN l k).i := by omega
            have y12 : q - (iN l k).i ≤ 9223372036854775807 := by omega
            have y22 : q - (iN l k).i - (iN l k).p ≤ 9223372036854775807 := by omega
            clear rg ROW BFN' NXT' CE r3 r5 qe r4 QE
            generalize (iN l k).i = xi at *
            generalize (iN l k).p = xp at *
            go_wp2_with fail
            go_roundw
            case rel => exact ⟨k + 1, _, by go_num, by omega, rfl, R3.out, by trivial⟩
            case measure => simp [intOf]; omega
          · obtain rfl : k = n := by omega
            by_cases en : k + 1 = L
            · have en1 : ((k : Int) == (L : Int) - 1) = true := by simp; omega
              clear ROW BFN' NXT' CE
              go_wp2_with fail
              go_ret
              exact ⟨rfl, WB.out⟩
            · have en1 : ((k : Int) == (L : Int) - 1) = false := by simp; omega
              obtain ⟨g, o, rfl, rg⟩ := CE.out wr WB.out k (by omega)
              have c1 : wr.cell? ⟨g, o + k * 4 + 1, none⟩ = some (.int .i64 (iN l k).i) := rg 1 _ rfl
              have c2 : wr.cell? ⟨g, o + k * 4 + 2, none⟩ = some (.int .i64 (iN l k).p) := rg 2 _ rfl
              obtain ⟨r1, r2, r3, r4⟩ := ROW.out k (by omega)
              have r5 := BFN'.out k (by omega)
              have r6 := NXT'.out en
              have qe := QE.out
              have d1 : q - (iN l k).i < (iN l k).p := by omega
              have q0 : 0 ≤ q := by omega
              have q1 : q ≤ 9223372036854775807 := by omega
              have rM : (iN l k).i ≤ 9223372036854775807 := (OKI.out k).2.1.2
              clear rg ROW BFN' NXT' CE r3 r5 r6 qe r4 QE
              generalize (iN l k).i = xi at *
              generalize (iN l k).p = xp at *
              have hw : IntKind.i64.wrap (q - xi) = q - xi := by simp [IntKind.wrap, IntKind.bits, IntKind.signed]; omega
              by_cases d0 : q < xi
              · have d2 : decide (q < xi) = true := decide_eq_true d0
                go_wp2_with fail
                go_quiet (fail)
                go_wp2_with fail
                go_ret
                exact ⟨rfl, below_drewN WB.out _⟩
              · have d2 : decide (q < xi) = false := decide_eq_false d0
                go_wp2_with fail
                go_quiet (fail)
                go_wp2_with fail
                go_ret
                exact ⟨rfl, below_drewN WB.out _⟩
    · have hn1 : n = L := by have := hlt; omega
      subst hn1
      have e1 : oldK n n = 0 := by simp [oldK]
      have e2 : oldB n n = false := by simp [oldB]
      rw [e1, e2] at OL
      have q1 : ((n : Int) == (n : Int)) = true := by simp
      have q2 : R ≤ 0 := by omega
      clear e1 e2 hlt BFN NXT hle ROW CE
      go_enter Try.func3, Try.ntmps3
      go_wp2_with fail
      refine (SL.out _ BC.out.1).mono ?_
      rintro e w2 ⟨rfl, b2⟩
      have B2 : Hid (Below w.heap.size w w2 ∧ w2.cell? ⟨w.heap.size, 0, none⟩ = some (.int .i64 A) ∧ w2.cell? ⟨w.heap.size, 1, none⟩ = some (.int .i64 R)) := heldP b2 BC.out
      clear b2 BC SL
      go_wp2_with fail
      go_region_held3 (fun w' => Below w.heap.size w w' ∧ w'.cell? ⟨w.heap.size, 0, none⟩ = some (.int .i64 A) ∧ w'.cell? ⟨w.heap.size, 1, none⟩ = some (.int .i64 R)) (first | assumption | exact ⟨Below.drew B2.out.1, B2.out.2.1, B2.out.2.2⟩ | exact heldP hU (by assumption)) (first | (go_at_call 11; refine (CP.out _ (And.left (by assumption))).mono ?_; rintro e w1 ⟨v1, rfl, r1, hU⟩) | (go_at_call 10; refine (SA.out _ _ r1.rd).mono ?_; rintro e w1 ⟨rfl, hU⟩))
      have B3 : Hid (Below w.heap.size w w1 ∧ w1.cell? ⟨w.heap.size, 0, none⟩ = some (.int .i64 A) ∧ w1.cell? ⟨w.heap.size, 1, none⟩ = some (.int .i64 R)) := by assumption
      clear B2 hU r1
      go_wp2_with fail
      go_region_held3 (fun w' => Below w.heap.size w w' ∧ w'.cell? ⟨w.heap.size, 0, none⟩ = some (.int .i64 A) ∧ w'.cell? ⟨w.heap.size, 1, none⟩ = some (.int .i64 R)) (first | assumption | exact ⟨Below.drew B3.out.1, B3.out.2.1, B3.out.2.2⟩ | exact heldP hU (by assumption)) (first | (go_at_call 11; refine (CP.out _ (And.left (by assumption))).mono ?_; rintro e w1 ⟨v1, rfl, r1, hU⟩) | (go_at_call 12; refine (OL.out _ _ r1.rd).mono ?_; rintro e w1 ⟨rfl, hU⟩))
      have B4 : Hid (Below w.heap.size w w1 ∧ w1.cell? ⟨w.heap.size, 0, none⟩ = some (.int .i64 A) ∧ w1.cell? ⟨w.heap.size, 1, none⟩ = some (.int .i64 R)) := by assumption
      clear B3 hU r1
      have p1 := B4.out.2.2
      go_wp2_with fail
      go_ret
      exact ⟨rfl, B4.out.1⟩
end Go.Proofs.Ytekejcpgoijoaaa
