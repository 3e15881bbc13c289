/-
  Ours: the walk of AgingAgree.
-/
import Derived.Test.YtekejcpgoijoaaaAgM2
import Derived.Test.YtekejcpgoijoaaaAgPast
import Derived.Test.YtekejcpgoijoaaaAgLaw
namespace Go.Proofs.Ytekejcpgoijoaaa
open Go.RowKit LedM AgM

set_option maxRecDepth 20000 in
set_option maxHeartbeats 2000000 in
theorem agree_any (l : List Ins) (A R t : Int) (v : Value) (w : World) (ok : ∀ x ∈ l, InsOk x) (hA : i64 A) (ht : i64 t) (h : RdP w v l) :
    Calls Try.prog 4 #[v, .agg #[.int .i64 A, .int .i64 R], .int .i64 t] w fun e w' => e = .returned (.bool true) ∧ Below w.heap.size w w' := by
  have BC : Hid (Below w.heap.size w (w.alloc (.cells #[.int .i64 A, .int .i64 R] 24)) ∧ (w.alloc (.cells #[.int .i64 A, .int .i64 R] 24)).cell? ⟨w.heap.size, 0, none⟩ = some (.int .i64 A) ∧ (w.alloc (.cells #[.int .i64 A, .int .i64 R] 24)).cell? ⟨w.heap.size, 1, none⟩ = some (.int .i64 R)) := ⟨below_alloc w _, (Blk.new 24 [.int .i64 A, .int .i64 R] w).cell 0 _ rfl, (Blk.new 24 [.int .i64 A, .int .i64 R] w).cell 1 _ rfl⟩
  have SL : Hid (∀ w', Below w.heap.size w w' → Calls Try.prog 9 #[v] w' fun e w2 => e = .returned (.bool (decide (0 < l.length ∧ l.length ≤ 400 ∧ Snd l = true))) ∧ Below w'.heap.size w' w2) := fun w' hb => soundL_at l v w' ok (h.later hb)
  by_cases hc : 0 < l.length ∧ l.length ≤ 400 ∧ Snd l = true
  case neg =>
    rw [decide_eq_false hc] at SL
    clear hc h ok
    go_enter Try.func4, Try.ntmps4
    go_wp2_with fail
    refine (SL.out _ BC.out.1).mono ?_
    rintro e w2 ⟨rfl, b2⟩
    have B2 : Hid (Below w.heap.size w w2 ∧ w2.cell? ⟨w.heap.size, 0, none⟩ = some (.int .i64 A) ∧ w2.cell? ⟨w.heap.size, 1, none⟩ = some (.int .i64 R)) := heldP b2 BC.out
    have p1 := B2.out.2.2
    clear b2 BC SL
    go_wp2_with fail
    go_ret
    exact ⟨rfl, B2.out.1⟩
  case pos =>
    rw [decide_eq_true hc] at SL
    obtain ⟨l0, l4, hs⟩ := hc
    by_cases c0 : R ≤ 0
    · clear h ok hs
      go_enter Try.func4, Try.ntmps4
      go_wp2_with fail
      refine (SL.out _ BC.out.1).mono ?_
      rintro e w2 ⟨rfl, b2⟩
      have B2 : Hid (Below w.heap.size w w2 ∧ w2.cell? ⟨w.heap.size, 0, none⟩ = some (.int .i64 A) ∧ w2.cell? ⟨w.heap.size, 1, none⟩ = some (.int .i64 R)) := heldP b2 BC.out
      have p1 := B2.out.2.2
      clear b2 BC SL
      go_wp2_with fail
      go_ret
      exact ⟨rfl, B2.out.1⟩
    · obtain ⟨n, hn⟩ := SatF.ex l A R
      have hn1 : n < l.length := hn.lt.2 ⟨by omega, l0⟩
      obtain ⟨c, hp⟩ := Pre.ex hs t
      have CP : Hid (∀ w', Below w.heap.size w w' → Calls Try.prog 11 #[v] w' fun e w2 => ∃ v', e = .returned v' ∧ RowP w'.heap.size w2 v' l ∧ Below w'.heap.size w' w2) := fun w' hb => copied_at l v w' (by omega) (h.later hb)
      have DA : Hid (∀ v' w', RdP w' v' l → Calls Try.prog 13 #[v', .agg #[.int .i64 A, .int .i64 R], .int .i64 t] w' fun e w2 => e = .returned (.int .i64 (ltD (iN l n).d t)) ∧ Below w'.heap.size w' w2) := fun v' w' hr => by have := days_at l A R t n v' w' (by omega) ok hA ht (by rw [sP_yes hs]; exact hn) hr; rwa [daysV_in hs hn1] at this
      have PD : Hid (∀ v' w', RdP w' v' l → Calls Try.prog 14 #[v', .agg #[.int .i64 A, .int .i64 R], .int .i64 t] w' fun e w2 => e = .returned (.int .i64 (pdV l A R t c)) ∧ Below w'.heap.size w' w2) := fun v' w' hr => by have := past_at l A R t c v' w' (by omega) ok hA ht (by rw [sP_yes hs]; exact hp) hr; rwa [sP_yes hs] at this
      have AG := agr (R := R) hs l0 (by omega) (hn.sat hn1) hp
      have h' := h
      obtain ⟨ao, cap, rfl, -, -, -⟩ := h
      have CE : Hid (∀ w', Below w.heap.size w w' → ∀ i, i < l.length → ∃ g o, ao = some ⟨g, o, none⟩ ∧ w'.rangeAt g (o + i * 4) (insL (iN l i))) := h'.cells
      generalize ltD (iN l n).d t = d at *
      generalize pdV l A R t c = p at *
      obtain ⟨d0, p0, pR, aiff, alast, afirst⟩ := AG
      obtain ⟨L, hL⟩ : ∃ L, l.length = L := ⟨_, rfl⟩
      rw [hL] at SL CP CE l0 l4 alast ⊢
      have q1 : ¬ d < 0 := by omega
      have q2 : ¬ p < 0 := by omega
      have q3 : ¬ R < p := by omega
      have AI : Hid (0 < d ↔ 0 < p) := aiff
      have hcst : ((L - 1 : Nat) : Int) = (L : Int) - 1 := by omega
      have hi1 : (L : Int) - 1 < (L : Int) := by omega
      have hi0 : 0 ≤ (L : Int) - 1 := by omega
      have htn : ((L : Int) - 1).toNat = L - 1 := by omega
      have AL : Hid ((iN l (L - 1)).d < t → p = R ∧ 0 < d) := alast
      have AF : Hid (¬ (iN l 0).d < t → d = 0) := afirst
      clear h' hs ok hn hL hp aiff alast afirst hn1
      go_enter Try.func4, Try.ntmps4
      go_wp2_with fail
      refine (SL.out _ BC.out.1).mono ?_
      rintro e w2 ⟨rfl, b2⟩
      have B2 : Hid (Below w.heap.size w w2 ∧ w2.cell? ⟨w.heap.size, 0, none⟩ = some (.int .i64 A) ∧ w2.cell? ⟨w.heap.size, 1, none⟩ = some (.int .i64 R)) := heldP b2 BC.out
      have p1 := B2.out.2.2
      clear b2 BC SL
      go_wp2_with fail
      go_region_held3 (fun w' => Below w.heap.size w w' ∧ w'.cell? ⟨w.heap.size, 0, none⟩ = some (.int .i64 A) ∧ w'.cell? ⟨w.heap.size, 1, none⟩ = some (.int .i64 R)) (first | assumption | exact ⟨Below.drew B2.out.1, B2.out.2.1, B2.out.2.2⟩ | exact heldP hU (by assumption)) (first | (go_at_call 11; refine (CP.out _ (And.left (by assumption))).mono ?_; rintro e w1 ⟨v1, rfl, r1, hU⟩) | (go_at_call 13; refine (DA.out _ _ r1.rd).mono ?_; rintro e w1 ⟨rfl, hU⟩))
      have B3 : Hid (Below w.heap.size w w1 ∧ w1.cell? ⟨w.heap.size, 0, none⟩ = some (.int .i64 A) ∧ w1.cell? ⟨w.heap.size, 1, none⟩ = some (.int .i64 R)) := by assumption
      clear B2 hU r1 p1
      go_wp2_with fail
      go_region_held3 (fun w' => Below w.heap.size w w' ∧ w'.cell? ⟨w.heap.size, 0, none⟩ = some (.int .i64 A) ∧ w'.cell? ⟨w.heap.size, 1, none⟩ = some (.int .i64 R)) (first | assumption | exact ⟨Below.drew B3.out.1, B3.out.2.1, B3.out.2.2⟩ | exact heldP hU (by assumption)) (first | (go_at_call 11; refine (CP.out _ (And.left (by assumption))).mono ?_; rintro e w1 ⟨v1, rfl, r1, hU⟩) | (go_at_call 14; refine (PD.out _ _ r1.rd).mono ?_; rintro e w1 ⟨rfl, hU⟩))
      have B4 : Hid (Below w.heap.size w w1 ∧ w1.cell? ⟨w.heap.size, 0, none⟩ = some (.int .i64 A) ∧ w1.cell? ⟨w.heap.size, 1, none⟩ = some (.int .i64 R)) := by assumption
      have p1 := B4.out.2.2
      clear B3 hU r1
      obtain ⟨g, o, rfl, rg⟩ := CE.out w1 B4.out.1 (L - 1) (by omega)
      have cl : w1.cell? ⟨g, o + (L - 1) * 4, none⟩ = some (.int .i64 (iN l (L - 1)).d) := rg 0 _ rfl
      have cf : w1.cell? ⟨g, o, none⟩ = some (.int .i64 (iN l 0).d) := by
        obtain ⟨g', o', e', r'⟩ := CE.out w1 B4.out.1 0 (by omega)
        cases e'
        have := r' 0 _ rfl
        simpa using this
      clear rg CE
      generalize (iN l (L - 1)).d = yl at *
      generalize (iN l 0).d = y0 at *
      have l0' : (0 : Int) < (L : Int) := by omega
      by_cases hd : 0 < d
      · have hpp := AI.out.1 hd
        by_cases hl : yl < t
        · obtain ⟨ep, ed⟩ := AL.out hl
          have q5 : (p == R) = true := by simp [ep]
          clear ep
          have q6 : decide (yl < t) = true := decide_eq_true hl
          go_wp2_with fail
          go_ret
          exact ⟨rfl, B4.out.1⟩
        · have q6 : decide (yl < t) = false := decide_eq_false hl
          by_cases hf : y0 < t
          · go_wp2_with fail
            go_ret
            exact ⟨rfl, B4.out.1⟩
          · have ed := AF.out (by omega)
            have q7 : (d == 0) = true := by simp [ed]
            clear ed
            go_wp2_with fail
            go_ret
            exact ⟨rfl, B4.out.1⟩
      · have hpp : ¬ 0 < p := fun h => hd (AI.out.2 h)
        by_cases hl : yl < t
        · exact absurd (AL.out hl).2 hd
        · have q6 : decide (yl < t) = false := decide_eq_false hl
          by_cases hf : y0 < t
          · go_wp2_with fail
            go_ret
            exact ⟨rfl, B4.out.1⟩
          · have ed := AF.out (by omega)
            have q7 : (d == 0) = true := by simp [ed]
            clear ed
            go_wp2_with fail
            go_ret
            exact ⟨rfl, B4.out.1⟩
end Go.Proofs.Ytekejcpgoijoaaa
