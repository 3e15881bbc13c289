/-
  Ours: what a plan's rows are, by whole numbers: the due days are there and rise, the rows pay the loan off.
-/
import Derived.Test.YtkabfdajpilomabDoorIntPlanA
namespace Go.Proofs.YtkabfdajpilomabDoor
open Go.RowKit IntM CalM

theorem len_le : ∀ (ys xs : List Int), ys.Pairwise (· ≠ ·) → (∀ y ∈ ys, y ∈ xs) → ys.length ≤ xs.length
  | [], _, _, _ => by simp
  | y :: ys, xs, nd, sub => by
    rw [List.pairwise_cons] at nd
    have hy : y ∈ xs := sub y (by simp)
    have := len_le ys (xs.erase y) nd.2 (fun z hz => (List.mem_erase_of_ne (fun e => nd.1 z hz e.symm)).2 (sub z (by simp [hz])))
    rw [List.length_erase_of_mem hy] at this
    have hp : 0 < xs.length := List.length_pos_of_mem hy
    simp only [List.length_cons]
    omega

/-- Of eleven days in a row with at most four holidays one is a business day. -/
theorem near_some (day step : Int) (xs : List Int) (hx : xs.length ≤ 4) (hs : step = 1 ∨ step = -1) (d1 : 11 ≤ day) (d2 : day ≤ 3652049) : ∃ x, near day step xs = some x := by
  cases hn : near day step xs with
  | some x => exact ⟨x, rfl⟩
  | none =>
    exfalso
    have all : ∀ k : Nat, k < 11 → workB (day + (k : Int) * step) xs = false := by
      have gen : ∀ j : Nat, j ≤ 11 → nearFrom day step xs j = none → ∀ k : Nat, 11 - j ≤ k → k < 11 → workB (day + (k : Int) * step) xs = false := by
        intro j
        induction j with
        | zero => intro _ _ k h1 h2; omega
        | succ j ih =>
          intro hj h k h1 h2
          cases hw : workB (day + ((11 - (j + 1) : Nat) : Int) * step) xs with
          | true =>
            have := near_yes (day := day) (step := step) (xs := xs) (k := 11 - (j + 1)) (by omega) hw
            rw [show 11 - (11 - (j + 1)) = j + 1 by omega, h] at this
            cases this
          | false =>
            have := near_no (day := day) (step := step) (xs := xs) (k := 11 - (j + 1)) (by omega) hw
            rw [show 11 - (11 - (j + 1)) = j + 1 by omega, show 11 - (11 - (j + 1) + 1) = j by omega, h] at this
            by_cases hk : k = 11 - (j + 1)
            · rw [hk]; exact hw
            · exact ih (by omega) this.symm k (by omega) h2
      exact fun k hk => gen 11 (by omega) hn k (by omega) hk
    have mem : ∀ k : Nat, k < 11 → (day + (k : Int) * step - 1) % 7 < 5 → day + (k : Int) * step ∈ xs := by
      intro k hk hw
      have := of_decide_eq_false (all k hk)
      refine Classical.byContradiction fun hnot => this ⟨?_, hw, hnot⟩
      rcases hs with rfl | rfl <;> omega
    have five : ∀ a b c d e : Nat, a < b → b < c → c < d → d < e → e < 11 → (day + (a : Int) * step - 1) % 7 < 5 → (day + (b : Int) * step - 1) % 7 < 5 → (day + (c : Int) * step - 1) % 7 < 5 → (day + (d : Int) * step - 1) % 7 < 5 → (day + (e : Int) * step - 1) % 7 < 5 → False := by
      intro a b c d e h1 h2 h3 h4 h5 m1 m2 m3 m4 m5
      have := len_le [day + (a : Int) * step, day + (b : Int) * step, day + (c : Int) * step, day + (d : Int) * step, day + (e : Int) * step] xs (by
        simp only [List.pairwise_cons, List.mem_cons, List.not_mem_nil, or_false, forall_eq_or_imp, forall_eq, ne_eq]
        rcases hs with rfl | rfl <;> refine ⟨⟨?_, ?_, ?_, ?_⟩, ⟨?_, ?_, ?_⟩, ⟨?_, ?_⟩, ?_, ?_⟩ <;> first | omega | simp) (by
        intro y hy
        simp only [List.mem_cons, List.not_mem_nil, or_false] at hy
        rcases hy with rfl | rfl | rfl | rfl | rfl
        · exact mem a (by omega) m1
        · exact mem b (by omega) m2
        · exact mem c (by omega) m3
        · exact mem d (by omega) m4
        · exact mem e (by omega) m5)
      simp at this
      omega
    have c7 : (day - 1) % 7 = 0 ∨ (day - 1) % 7 = 1 ∨ (day - 1) % 7 = 2 ∨ (day - 1) % 7 = 3 ∨ (day - 1) % 7 = 4 ∨ (day - 1) % 7 = 5 ∨ (day - 1) % 7 = 6 := by omega
    rcases hs with rfl | rfl
    · rcases c7 with h | h | h | h | h | h | h
      · exact five 0 1 2 3 4 (by omega) (by omega) (by omega) (by omega) (by omega) (by omega) (by omega) (by omega) (by omega) (by omega)
      · exact five 0 1 2 3 6 (by omega) (by omega) (by omega) (by omega) (by omega) (by omega) (by omega) (by omega) (by omega) (by omega)
      · exact five 0 1 2 5 6 (by omega) (by omega) (by omega) (by omega) (by omega) (by omega) (by omega) (by omega) (by omega) (by omega)
      · exact five 0 1 4 5 6 (by omega) (by omega) (by omega) (by omega) (by omega) (by omega) (by omega) (by omega) (by omega) (by omega)
      · exact five 0 3 4 5 6 (by omega) (by omega) (by omega) (by omega) (by omega) (by omega) (by omega) (by omega) (by omega) (by omega)
      · exact five 2 3 4 5 6 (by omega) (by omega) (by omega) (by omega) (by omega) (by omega) (by omega) (by omega) (by omega) (by omega)
      · exact five 1 2 3 4 5 (by omega) (by omega) (by omega) (by omega) (by omega) (by omega) (by omega) (by omega) (by omega) (by omega)
    · rcases c7 with h | h | h | h | h | h | h
      · exact five 0 3 4 5 6 (by omega) (by omega) (by omega) (by omega) (by omega) (by omega) (by omega) (by omega) (by omega) (by omega)
      · exact five 0 1 4 5 6 (by omega) (by omega) (by omega) (by omega) (by omega) (by omega) (by omega) (by omega) (by omega) (by omega)
      · exact five 0 1 2 5 6 (by omega) (by omega) (by omega) (by omega) (by omega) (by omega) (by omega) (by omega) (by omega) (by omega)
      · exact five 0 1 2 3 6 (by omega) (by omega) (by omega) (by omega) (by omega) (by omega) (by omega) (by omega) (by omega) (by omega)
      · exact five 0 1 2 3 4 (by omega) (by omega) (by omega) (by omega) (by omega) (by omega) (by omega) (by omega) (by omega) (by omega)
      · exact five 1 2 3 4 5 (by omega) (by omega) (by omega) (by omega) (by omega) (by omega) (by omega) (by omega) (by omega) (by omega)
      · exact five 2 3 4 5 6 (by omega) (by omega) (by omega) (by omega) (by omega) (by omega) (by omega) (by omega) (by omega) (by omega)

/-- A day that is moved. -/
theorem adj_some (day rule : Int) (xs : List Int) (hx : xs.length ≤ 4) (r0 : 0 ≤ rule) (r1 : rule ≤ 3) (d1 : 11 ≤ day) (d2 : day ≤ 3652049) :
    ∃ x, adjO day xs rule = some x ∧ day - 10 ≤ x ∧ x ≤ day + 10 ∧ (rule = 0 → x = day) ∧ (rule ≠ 0 → workB x xs = true) := by
  obtain ⟨f, hf⟩ := near_some day 1 xs hx (.inl rfl) d1 d2
  obtain ⟨b, hb⟩ := near_some day (-1) xs hx (.inr rfl) d1 d2
  obtain ⟨wf, k, k0, k1, ef⟩ := near_from 11 f (by omega) hf
  obtain ⟨wb, j, j0, j1, eb⟩ := near_from 11 b (by omega) hb
  unfold adjO
  rw [if_neg (by omega), hf, hb]
  by_cases h0 : rule = 0
  · rw [if_pos h0]; exact ⟨day, rfl, by omega, by omega, fun _ => rfl, fun h => absurd h0 h⟩
  · rw [if_neg h0]
    by_cases h1 : rule = 1
    · rw [if_pos h1]; exact ⟨f, rfl, by omega, by omega, fun h => absurd h h0, fun _ => wf⟩
    · rw [if_neg h1]
      by_cases h2 : rule = 2
      · rw [if_pos h2]; exact ⟨b, rfl, by omega, by omega, fun h => absurd h h0, fun _ => wb⟩
      · rw [if_neg h2, if_pos (by omega)]
        simp only []
        split
        · exact ⟨f, rfl, by omega, by omega, fun h => absurd h h0, fun _ => wf⟩
        · exact ⟨b, rfl, by omega, by omega, fun h => absurd h h0, fun _ => wb⟩

/-- The next month lies 28 days on at least. -/
theorem step_gap (q a : Int) (q0 : 0 ≤ q) (q1 : q + 1 ≤ 119987) (a1 : 1 ≤ a) (a2 : a ≤ 31) : stepN q a + 28 ≤ stepN (q + 1) a := by
  unfold stepN
  rw [if_pos (by omega), if_pos (by omega)]
  have l0 := len_low (q / 12 + 1) (q % 12 + 1)
  have l1 := len_low ((q + 1) / 12 + 1) ((q + 1) % 12 + 1)
  have e : dA ((q + 1) / 12 + 1) ((q + 1) % 12 + 1) = dA (q / 12 + 1) (q % 12 + 1) + lenI (q / 12 + 1) (q % 12 + 1) := by
    by_cases h : q % 12 = 11
    · rw [show (q + 1) / 12 = q / 12 + 1 by omega, show (q + 1) % 12 + 1 = 1 by omega, dA_one, h]
      exact dA_last (q / 12 + 1)
    · rw [show (q + 1) / 12 = q / 12 by omega, show (q + 1) % 12 + 1 = q % 12 + 1 + 1 by omega]
      exact dA_month _ _ (by omega) (by omega)
  unfold landI
  rw [e]
  omega

theorem step_top (q a : Int) (q0 : 0 ≤ q) (q1 : q ≤ 119760) : stepN q a ≤ 3652049 := by
  unfold stepN
  rw [if_pos (by omega)]
  have h := dA_high (q / 12 + 1) (q % 12 + 1) (by omega) (by omega)
  have m : landI q a ≤ lenI (q / 12 + 1) (q % 12 + 1) := by unfold landI; omega
  have t : yA (q / 12 + 1 + 1) ≤ yA 9982 := yA_mono (by omega)
  have e : yA 9982 ≤ 3652049 := by decide
  omega

/-- The month of a start, counted from the first; its day. -/
noncomputable def q0N (start : Int) : Int := (dY start - 1) * 12 + dM start - 1
theorem start_facts (start : Int) (h1 : 1 ≤ start) (h2 : start ≤ 3640000) : 0 ≤ q0N start ∧ q0N start ≤ 119640 ∧ 1 ≤ dK start ∧ dK start ≤ 31 ∧ stepN (q0N start) (dK start) = start := by
  obtain ⟨⟨y1, y2, m1, m2, k1, k2⟩, hd⟩ := date_spec start h1 (by omega)
  have hl := len_high (dY start) (dM start)
  have lo := dA_low (dY start) (dM start) m1 m2
  have hy : dY start ≤ 9970 := by
    refine Classical.byContradiction fun hn => ?_
    have : yA 9971 ≤ yA (dY start) := yA_mono (by omega)
    have e : 3640000 < yA 9971 := by decide
    omega
  have q : q0N start / 12 + 1 = dY start ∧ q0N start % 12 + 1 = dM start := by unfold q0N; omega
  refine ⟨by unfold q0N; omega, by unfold q0N; omega, k1, by omega, ?_⟩
  unfold stepN landI
  rw [if_pos (by unfold q0N; omega), q.1, q.2]
  omega

theorem step_far (q a : Int) (a1 : 1 ≤ a) (a2 : a ≤ 31) (q0 : 0 ≤ q) : ∀ k : Nat, q + k ≤ 119987 → stepN q a + 28 * k ≤ stepN (q + k) a
  | 0, _ => by simp
  | k + 1, h => by
    have h1 := step_far q a a1 a2 q0 k (by omega)
    have h2 := step_gap (q + k) a (by omega) (by omega) a1 a2
    rw [show q + ((k + 1 : Nat) : Int) = q + k + 1 by omega]
    omega

/-- What is known of the due day of month k. -/
theorem due_facts (start rule : Int) (xs : List Int) (hx : xs.length ≤ 4) (r0 : 0 ≤ rule) (r1 : rule ≤ 3) (h1 : 1 ≤ start) (h2 : start ≤ 3640000) (k : Nat) (k1 : 1 ≤ k) (k2 : k ≤ 120) :
    ∃ d, dueT start rule xs k = some d ∧ stepB (q0N start + k) = true ∧ stepN (q0N start + k) (dK start) - 10 ≤ d ∧ d ≤ stepN (q0N start + k) (dK start) + 10 ∧ (rule = 0 → d = stepN (q0N start + k) (dK start)) ∧ (rule ≠ 0 → workB d xs = true) ∧ start + 28 * k ≤ stepN (q0N start + k) (dK start) ∧ stepN (q0N start + k) (dK start) ≤ 3652049 := by
  obtain ⟨a0, a1, a2, a3, a4⟩ := start_facts start h1 h2
  have far := step_far (q0N start) (dK start) a2 a3 a0 k (by omega)
  have top := step_top (q0N start + k) (dK start) (by omega) (by omega)
  rw [a4] at far
  obtain ⟨x, hx1, hx2, hx3, hx4, hx5⟩ := adj_some (stepN (q0N start + k) (dK start)) rule xs hx r0 r1 (by omega) (by omega)
  have sb : stepB (q0N start + k) = true := decide_eq_true (by omega)
  refine ⟨x, ?_, sb, hx2, hx3, hx4, hx5, far, top⟩
  show dueO (q0N start + k) (dK start) xs rule = some x
  unfold dueO
  rw [sb, if_pos rfl]
  exact hx1

/-- The due days rise. -/
theorem due_rises (start rule : Int) (xs : List Int) (hx : xs.length ≤ 4) (r0 : 0 ≤ rule) (r1 : rule ≤ 3) (h1 : 1 ≤ start) (h2 : start ≤ 3640000) (k : Nat) (k1 : 1 ≤ k) (k2 : k + 1 ≤ 120) (d e : Int) (hd : dueT start rule xs k = some d) (he : dueT start rule xs (k + 1) = some e) : d < e := by
  obtain ⟨a0, a1, a2, a3, a4⟩ := start_facts start h1 h2
  obtain ⟨d', p1, _, p2, p3, _⟩ := due_facts start rule xs hx r0 r1 h1 h2 k k1 (by omega)
  obtain ⟨e', p4, _, p5, p6, _⟩ := due_facts start rule xs hx r0 r1 h1 h2 (k + 1) (by omega) k2
  rw [hd] at p1
  rw [he] at p4
  obtain rfl := Option.some.inj p1
  obtain rfl := Option.some.inj p4
  have g := step_gap (q0N start + k) (dK start) (by omega) (by omega) a2 a3
  rw [show q0N start + ((k + 1 : Nat) : Int) = q0N start + k + 1 by omega] at p5
  omega
end Go.Proofs.YtkabfdajpilomabDoor
