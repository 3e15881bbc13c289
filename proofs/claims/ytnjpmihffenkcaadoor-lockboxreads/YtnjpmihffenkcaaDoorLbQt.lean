/-
  Ours: the reference's trailer.
-/
import Derived.Test.YtnjpmihffenkcaaDoorLbQl
import Derived.Test.YtnjpmihffenkcaaDoorLbRfl
namespace Go.Proofs.YtnjpmihffenkcaaDoor
open Go.RowKit LbM LbF
/-- What is wrong with a line as the trailer behind these payments. -/
def qTr (its : List It) (ln : List Nat) : Nat := if ¬ fm 2 ln then 200 else if fN 2 ln ≠ totN its then 203 else 0
theorem fN2 (ln : List Nat) : fN 2 ln = [numD ((ln.drop 1).take 4), numD ((ln.drop 5).take 16), numD ((ln.drop 21).take 10)] := by
  have e : fN 2 ln = [numD (ln.tail.take 4), numD ((ln.tail.drop 4).take 16), numD (((ln.tail.drop 4).drop 16).take 10)] := rfl
  rw [e, ← List.drop_one, List.drop_drop, List.drop_drop]
theorem dg_part {ln : List Nat} {k : Nat} (h : fm k ln) (p n : Nat) (hp : 1 ≤ p) : ∀ c ∈ (ln.drop p).take n, isDg c := fun c hc => by
  have h1 := List.mem_of_mem_take hc
  obtain ⟨q, rfl⟩ : ∃ q, p = 1 + q := ⟨p - 1, by omega⟩
  rw [← List.drop_drop, List.drop_one] at h1
  exact h.2.2 c (List.mem_of_mem_drop h1)
set_option maxRecDepth 20000 in
set_option maxHeartbeats 4000000 in
theorem rtrail_at (its : List It) (ln : List Nat) (v va : Value) (w : World) (hl : ln.length ≤ 1000000) (h : RdB w v ln) (h8 : ∀ c ∈ ln, c < 256) (hi9 : its.length ≤ 9999) (ok : ∀ x ∈ its, x.Ok) (hI : RdI w va its) :
    Calls Tryd.prog 30 #[v, va] w fun e w' => e = .returned (.int .i64 ((qTr its ln : Nat) : Int)) ∧ w = w' := by
  have FM : Hid (Calls Tryd.prog 50 #[v, .int .u8 84, .int .i64 30] w fun e w' => e = .returned (.bool (decide (fm 2 ln))) ∧ w = w') := formed_at ln v 84 30 w hl (by decide) h h8
  have FD : Hid (fm 2 ln → ∀ p n : Nat, 1 ≤ p → p + n ≤ 31 → n ≤ 16 → Calls Tryd.prog 51 #[v, .int .i64 (p : Int), .int .i64 (n : Int)] w fun e w' => e = .returned (.int .i64 ((numD ((ln.drop p).take n) : Nat) : Int)) ∧ w = w') := fun hf p n h1 h2 h3 => field_at ln v p n w hl h3 (by have := hf.1; have e : (wid 2).sum = 30 := rfl; omega) h (dg_part hf p n h1)
  have TT : Hid (Calls Tryd.prog 25 #[va] w fun e w' => e = .returned (.tuple #[.int .i64 (sumA its : Int), .int .i64 ((sumH its % 10000000000 : Nat) : Int)]) ∧ w = w') := rtotals_at its va w hi9 ok hI
  obtain ⟨ao, cap, rfl, -, -, -⟩ := hI
  obtain ⟨r, hr⟩ : ∃ r, qTr its ln = r := ⟨_, rfl⟩
  have R1 : Hid (¬ fm 2 ln → 200 = r) := fun q => by rw [← hr]; unfold qTr; rw [if_pos q]
  have R2 : Hid (fm 2 ln → ¬ (numD ((ln.drop 1).take 4) = its.length ∧ numD ((ln.drop 5).take 16) = sumA its ∧ numD ((ln.drop 21).take 10) = sumH its % 10000000000) → 203 = r) := fun q q2 => by
    rw [← hr]; unfold qTr
    rw [if_neg (by simpa using q), if_pos]
    intro e
    rw [fN2] at e
    unfold totN at e
    simp only [List.cons.injEq, and_true] at e
    exact q2 e
  have R3 : Hid (fm 2 ln → (numD ((ln.drop 1).take 4) = its.length ∧ numD ((ln.drop 5).take 16) = sumA its ∧ numD ((ln.drop 21).take 10) = sumH its % 10000000000) → 0 = r) := fun q q2 => by
    rw [← hr]; unfold qTr
    rw [if_neg (by simpa using q), if_neg]
    rw [fN2, q2.1, q2.2.1, q2.2.2]
    intro e
    exact e rfl
  rw [hr]
  clear hr hl h h8 hi9 ok
  go_enter Tryd.func30, Tryd.ntmps30
  go_wp2_with fail
  refine FM.out.mono ?_
  rintro e w2 ⟨rfl, rfl⟩
  by_cases hf : fm 2 ln
  · rw [decide_eq_true hf]
    have F1 : Hid (Calls Tryd.prog 51 #[v, .int .i64 1, .int .i64 4] w fun e w' => e = .returned (.int .i64 ((numD ((ln.drop 1).take 4) : Nat) : Int)) ∧ w = w') := FD.out hf 1 4 (by omega) (by omega) (by omega)
    have F2 : Hid (Calls Tryd.prog 51 #[v, .int .i64 5, .int .i64 16] w fun e w' => e = .returned (.int .i64 ((numD ((ln.drop 5).take 16) : Nat) : Int)) ∧ w = w') := FD.out hf 5 16 (by omega) (by omega) (by omega)
    have F3 : Hid (Calls Tryd.prog 51 #[v, .int .i64 21, .int .i64 10] w fun e w' => e = .returned (.int .i64 ((numD ((ln.drop 21).take 10) : Nat) : Int)) ∧ w = w') := FD.out hf 21 10 (by omega) (by omega) (by omega)
    have R2' : Hid (¬ (numD ((ln.drop 1).take 4) = its.length ∧ numD ((ln.drop 5).take 16) = sumA its ∧ numD ((ln.drop 21).take 10) = sumH its % 10000000000) → 203 = r) := R2.out hf
    have R3' : Hid ((numD ((ln.drop 1).take 4) = its.length ∧ numD ((ln.drop 5).take 16) = sumA its ∧ numD ((ln.drop 21).take 10) = sumH its % 10000000000) → 0 = r) := R3.out hf
    clear R1 R2 R3 FD FM hf
    generalize numD ((ln.drop 1).take 4) = n1 at *
    generalize numD ((ln.drop 5).take 16) = n2 at *
    generalize numD ((ln.drop 21).take 10) = n3 at *
    generalize sumA its = s1 at *
    generalize sumH its % 10000000000 = s2 at *
    generalize its.length = L at *
    go_wp2_with fail
    refine TT.out.mono ?_
    rintro e w3 ⟨rfl, rfl⟩
    clear TT
    go_wp2_with fail
    refine F1.out.mono ?_
    rintro e w4 ⟨rfl, rfl⟩
    by_cases h1 : n1 = L
    · have e1 : ((n1 : Int) != (L : Int)) = false := by rw [h1]; simp
      go_wp2_with fail
      refine F2.out.mono ?_
      rintro e w5 ⟨rfl, rfl⟩
      by_cases h2 : n2 = s1
      · have e2 : ((n2 : Int) != (s1 : Int)) = false := by rw [h2]; simp
        go_wp2_with fail
        refine F3.out.mono ?_
        rintro e w6 ⟨rfl, rfl⟩
        by_cases h3 : n3 = s2
        · have e3 : ((n3 : Int) != (s2 : Int)) = false := by rw [h3]; simp
          have Y := R3'.out ⟨h1, h2, h3⟩
          subst Y
          clear h1 h2 h3
          go_wp2_with fail
          go_ret
          exact ⟨rfl, rfl⟩
        · have e3 : ((n3 : Int) != (s2 : Int)) = true := by simp; omega
          have Y := R2'.out (fun q => h3 q.2.2)
          subst Y
          clear h1 h2 h3
          go_wp2_with fail
          go_ret
          exact ⟨rfl, rfl⟩
      · have e2 : ((n2 : Int) != (s1 : Int)) = true := by simp; omega
        have Y := R2'.out (fun q => h2 q.2.1)
        subst Y
        clear h1 h2
        go_wp2_with fail
        go_ret
        exact ⟨rfl, rfl⟩
    · have e1 : ((n1 : Int) != (L : Int)) = true := by simp; omega
      have Y := R2'.out (fun q => h1 q.1)
      subst Y
      clear h1
      go_wp2_with fail
      go_ret
      exact ⟨rfl, rfl⟩
  · rw [decide_eq_false hf]
    have Y := R1.out hf
    subst Y
    clear hf
    go_wp2_with fail
    go_ret
    exact ⟨rfl, rfl⟩
end Go.Proofs.YtnjpmihffenkcaaDoor
