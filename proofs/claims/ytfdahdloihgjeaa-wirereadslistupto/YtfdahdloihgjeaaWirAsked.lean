/-
  Ours: the statement's asked; the law WireReadsList walked.
-/
import Derived.Test.YtfdahdloihgjeaaWirMark
namespace Go.Proofs.Ytfdahdloihgjeaa
open Go.RowKit

/-- The bytes from a place on, as a slice expression gives them. -/
theorem Rd.from {w : World} {g o n cap E : Nat} {vs : List Value} (h : Rd w (.slice (some ⟨g, o, none⟩) n cap) vs) (hE : E ≤ n) (hc : n ≤ cap) : Rd w (.slice (if cap = E then some ⟨g, o, none⟩ else some ⟨g, o + E, none⟩) (n - E) (cap - E)) (vs.drop E) := by
  obtain ⟨ao, cap', e, h1, h2, h3⟩ := h
  cases e
  refine ⟨_, cap - E, by rw [List.length_drop], by rw [List.length_drop]; omega, (fun h => by split at h <;> cases h), fun i hi => ?_⟩
  rw [List.length_drop] at hi
  obtain ⟨g', o', e1, lt, e2⟩ := h3 (E + i) (by omega)
  cases e1
  rw [if_neg (by omega)]
  refine ⟨g, o + E, rfl, lt, ?_⟩
  rw [Nat.add_assoc, e2, List.getElem_drop]
theorem RdB.from {w : World} {g o n cap E : Nat} {bs : List Nat} (h : RdB w (.slice (some ⟨g, o, none⟩) n cap) bs) (hE : E ≤ n) (hc : n ≤ cap) : RdB w (.slice (if cap = E then some ⟨g, o, none⟩ else some ⟨g, o + E, none⟩) (n - E) (cap - E)) (bs.drop E) := by
  have := Rd.from h hE hc
  rw [RdB, List.map_drop]; exact this

set_option maxRecDepth 20000 in
set_option maxHeartbeats 1000000 in
theorem asked_at (bs : List Nat) (p : Int) (v : Value) (w : World) (hb : ∀ c ∈ bs, c < 256) (hl : bs.length ≤ 1000000000000) (p0 : -9223372036854775808 ≤ p) (p1 : p ≤ 9223372036854775807) (h : RdB w v bs) :
    Calls Try.prog 19 #[v, .int .i64 p] w fun e w' => e = .returned (.bool true) ∧ Below w.heap.size w w' := by
  have C : Hid (Calls Try.prog 26 #[v, .int .i64 p] w fun e w' => e = rdAns (rd bs p) ∧ Below w.heap.size w w') := ruint_at bs p v w hb (by omega) p0 p1 h
  have CP : Hid (∀ w', Below w.heap.size w w' → Calls Try.prog 16 #[v] w' (NewB w' bs)) := fun w' h' => copied_at bs v w' (by omega) (Rd.later h h')
  have HV : Hid (∀ w', Below w.heap.size w w' → RdB w' v bs) := fun w' h' => Rd.later h h'
  obtain ⟨L, hL⟩ : ∃ L, bs.length = L := ⟨_, rfl⟩
  obtain ⟨ao, cap, rfl, hcap, hn⟩ := h.len
  rw [List.length_map, hL] at hcap C CP HV h ⊢
  cases hr : rd bs p with
  | none =>
    rw [hr] at C
    clear hr h
    go_enter Try.func19, Try.ntmps19
    go_wp2_with fail
    refine C.out.mono ?_
    rintro e w1 ⟨rfl, b1⟩
    simp only [rdAns]
    go_wp2_with fail
    go_ret
    exact ⟨rfl, b1⟩
  | some q =>
    obtain ⟨n, f⟩ := q
    obtain ⟨f0, f1, f2, f3⟩ := rd_le bs p n f hb hr
    rw [hr] at C
    rw [hL] at f2
    by_cases hc : n ≤ L - f
    · have LR : lenR bs p = some (n, f) := by unfold lenR; rw [hr]; simp only; rw [if_pos (by omega)]
      have LM : Hid (∀ base v w', RowB 5 base w' v bs → Calls Try.prog 15 #[v, .int .i64 p, .func (.func 46) #[] #[]] w' fun e w'' => ∃ u cs, e = .returned u ∧ RowB 5 base w'' v cs ∧ cs.length = bs.length ∧ cs.drop (f + askN bs f n) = bs.drop (f + askN bs f n) ∧ w'.grownBy w'' v.ownBlock) := fun base v w' h' => listMark_at bs p n f base v w' hb hl p0 p1 h' LR
      obtain ⟨g, o, rfl, lt⟩ := h.addr (by omega)
      have CE : Hid (∀ k, k < L → w.cell? ⟨g, o + k, none⟩ = some (.int .u8 (bs.getD k 0 : Nat))) := fun k hk => by
        obtain ⟨g', o', e1, _, e2⟩ := RdB.at h (i := k) (by omega)
        cases e1; exact e2
      have d : decide ((L : Int) - (f : Int) < (n : Int)) = false := decide_eq_false (by omega)
      have HL : Hid (bs.length = L) := hL
      have hl' : L ≤ 1000000000000 := by omega
      have AL := askN_le bs n f
      have SM : Hid (∀ w' v1 v2 (xs : List Nat), xs.length ≤ L → RdB w' v1 xs → RdB w' v2 xs → Calls Try.prog 10 #[v1, v2] w' fun e w'' => e = .returned (.bool true) ∧ ∃ m, w'' = w'.drewN m) := fun w' v1 v2 xs hx h1 h2 =>
        (same_at xs xs v1 v2 w' (by omega) h1 h2).mono fun e w'' ⟨h3, h4⟩ => ⟨by rw [h3, decide_eq_true rfl], h4⟩
      clear hr h hL hb LR hl
      go_enter Try.func19, Try.ntmps19
      go_wp2_with fail
      refine C.out.mono ?_
      rintro e w1 ⟨rfl, b1⟩
      simp only [rdAns]
      go_wp2_with fail
      go_loopw [8, 9] (fun ve vk wr => wr = w1 ∧ ∃ (k E : Nat), vk = .int .u64 (k : Int) ∧ ve = .int .i64 (E : Int) ∧ k ≤ n ∧ f ≤ E ∧ E ≤ f + n ∧ Hid ((k = n ∧ E = f + askN bs f n) ∨ (E = f + k ∧ askN bs f n = k + askN bs E (n - k)))) (fun _ vk _ => n - (intOf vk).toNat)
      case atStart => exact ⟨rfl, 0, f, rfl, rfl, by omega, by omega, by omega, .inr ⟨rfl, by simp⟩⟩
      case round =>
        obtain ⟨rfl, k, E, rfl, rfl, hk, hE, hE2, HC⟩ := hrel
        by_cases hlt : (k : Int) < (n : Int)
        · obtain ⟨rfl, ha⟩ : E = f + k ∧ askN bs f n = k + askN bs E (n - k) := by
            rcases HC.out with ⟨h1, _⟩ | h1
            · omega
            · exact h1
          have cc : wr.cell? ⟨g, o + (f + k), none⟩ = some (.int .u8 (bs.getD (f + k) 0 : Nat)) := (b1.cell (p := ⟨g, o + (f + k), none⟩) lt).trans (CE.out _ (by omega))
          by_cases c2 : bs.getD (f + k) 0 = 2
          · have N1 : Hid ((n = n ∧ f + k + 1 = f + askN bs f n) ∨ (f + k + 1 = f + n ∧ askN bs f n = n + askN bs (f + k + 1) (n - n))) := .inl ⟨rfl, by rw [ha, askN_two (by omega) c2]; omega⟩
            rw [c2] at cc
            clear ha c2 HC
            go_wp2_with fail
            go_roundw
            case rel => exact ⟨trivial, n, f + k + 1, by go_num, by go_num, by omega, by omega, by omega, N1⟩
            case measure => simp [intOf]; omega
          · have N1 : Hid ((k + 1 = n ∧ f + k + 1 = f + askN bs f n) ∨ (f + k + 1 = f + (k + 1) ∧ askN bs f n = (k + 1) + askN bs (f + k + 1) (n - (k + 1)))) := .inr ⟨by omega, by rw [ha, askN_else (by omega) c2, show n - k - 1 = n - (k + 1) by omega]; omega⟩
            have e2 : (((bs.getD (f + k) 0 : Nat) : Int) == 2) = false := by rw [beq_eq_false_iff_ne]; omega
            clear ha c2 HC
            generalize bs.getD (f + k) 0 = c at *
            go_wp2_with fail
            go_roundw
            case rel => exact ⟨trivial, k + 1, f + k + 1, by go_num, by go_num, by omega, by omega, by omega, N1⟩
            case measure => simp [intOf]; omega
        · have EE : E = f + askN bs f n := by
            rcases HC.out with ⟨_, h1⟩ | ⟨h1, h2⟩
            · exact h1
            · obtain rfl : k = n := by omega
              rw [h1, h2, Nat.sub_self]; simp [askN]
          subst EE
          obtain rfl : k = n := by omega
          clear HC
          obtain ⟨E, hEE⟩ : ∃ E, f + askN bs f k = E := ⟨_, rfl⟩
          rw [hEE] at LM hE hE2 ⊢
          clear hEE
          go_wp2_with fail
          refine (CP.out _ b1).mono ?_
          rintro e w2 ⟨v2, rfl, r2, b2⟩
          have B2 := below_trans b1 b2
          go_wp2_with fail
          refine (LM.out _ _ _ r2).mono ?_
          rintro e w3 ⟨u, cs, rfl, r3, lc, ed, g3⟩
          have B3 : Below w.heap.size w w3 := below_trans b1 (below_grown b2 r2 (Nat.le_refl _) b2.size g3)
          obtain ⟨g2, cap2, e2, hcap2, _, _⟩ := RowV.own r3 (by rw [List.length_map]; have := HL.out; omega)
          rw [List.length_map, lc, HL.out] at e2 hcap2
          subst e2
          have Q1 : Hid (RdB w3 (.slice (if cap2 = E then some ⟨g2, 0, none⟩ else some ⟨g2, 0 + E, none⟩) (L - E) (cap2 - E)) (bs.drop E)) := by
            have := RdB.from (E := E) (RowV.rd r3) (by omega) hcap2
            rw [ed] at this; exact this
          have Q2 : Hid (RdB w3 (.slice (if cap = E then some ⟨g, o, none⟩ else some ⟨g, o + E, none⟩) (L - E) (cap - E)) (bs.drop E)) := RdB.from (HV.out _ B3) (by omega) hcap
          have le : Hid ((bs.drop E).length ≤ L) := by show _ ≤ _; rw [List.length_drop, HL.out]; omega
          clear r2 r3 lc ed g3 b2 LM CP HV CE AL
          have S := fun n (v1 v2 : Value) (h1 : RdB (w3.drewN n) v1 (bs.drop E)) (h2 : RdB (w3.drewN n) v2 (bs.drop E)) => SM.out (w3.drewN n) v1 v2 (bs.drop E) le.out h1 h2
          have fin : ∀ {v1 v2 : Value}, RdB w3 v1 (bs.drop E) → RdB w3 v2 (bs.drop E) → ∀ n, Calls Try.prog 10 #[v1, v2] (w3.drewN n) fun e w'' => e = .returned (.bool true) ∧ ∃ m, w'' = (w3.drewN n).drewN m := fun h1 h2 n => S n _ _ h1 h2
          by_cases x0 : E = L
          · subst x0
            have Q3 : Hid (∀ ao c, (ao = none → c = 0) → RdB w3 (.slice ao 0 c) (bs.drop E)) := fun ao c hc => by
              rw [List.drop_of_length_le (by have := HL.out; omega)]
              exact ⟨ao, c, rfl, by simp, hc, fun i hi => by simp at hi⟩
            go_wp2_with fail
            go_quiet ((go_at_call 10; exact Calls.quiet_of (fin (Q3.out _ _ (fun h => by split at h <;> cases h)) (Q3.out _ _ (fun h => by split at h <;> cases h)) _)))
            go_wp2_with fail
            all_goals go_ret
            all_goals exact ⟨rfl, below_drewN B3 _⟩
          · rw [if_neg (by omega), Nat.zero_add] at Q1
            rw [if_neg (by omega)] at Q2
            have z1 : (cap2 - E == 0) = false := by rw [beq_eq_false_iff_ne]; omega
            have z2 : (cap - E == 0) = false := by rw [beq_eq_false_iff_ne]; omega
            go_wp2_with fail
            go_quiet ((go_at_call 10; exact Calls.quiet_of (fin Q1.out Q2.out _)))
            go_wp2_with fail
            all_goals go_ret
            all_goals exact ⟨rfl, below_drewN B3 _⟩
    · have d : decide ((L : Int) - (f : Int) < (n : Int)) = true := decide_eq_true (by omega)
      have hl' : L ≤ 1000000000000 := by omega
      clear hr h hL hb hl CP HV
      go_enter Try.func19, Try.ntmps19
      go_wp2_with fail
      refine C.out.mono ?_
      rintro e w1 ⟨rfl, b1⟩
      simp only [rdAns]
      go_wp2_with fail
      go_ret
      exact ⟨rfl, b1⟩
end Go.Proofs.Ytfdahdloihgjeaa
