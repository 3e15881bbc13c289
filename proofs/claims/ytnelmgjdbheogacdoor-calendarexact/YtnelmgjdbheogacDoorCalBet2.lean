/-
  Ours: contracts of the document's own thirty, Between; the walk of CalendarBetweens.
-/
import Derived.Test.YtnelmgjdbheogacDoorCalBet
import Derived.Test.YtnelmgjdbheogacDoorCalRef2
namespace Go.Proofs.YtnelmgjdbheogacDoor
open Go.RowKit CalM

set_option maxHeartbeats 2000000 in
theorem refThirty_at (f t n : Int) (f1 : 1 ≤ f) (f2 : f ≤ 3652059) (t1 : 1 ≤ t) (t2 : t ≤ 3652059) (hn : thN f t = n) (w : World) :
    Calls Tryd.prog 54 #[.int .i64 f, .int .i64 t] w fun e w' => e = .returned (.int .i64 n) ∧ Up w w' := by
  obtain ⟨okf, ef⟩ := date_spec f f1 f2
  obtain ⟨okt, et⟩ := date_spec t t1 t2
  unfold thN at hn
  generalize dY f = y at *
  generalize dM f = m at *
  generalize dK f = k at *
  generalize dY t = y' at *
  generalize dM t = m' at *
  generalize dK t = k' at *
  have CF : Hid (∀ w : World, Calls Tryd.prog 17 #[.int .i64 f] w fun e w' => e = .returned (.tuple #[.agg #[.int .i64 y, .int .i64 m, .int .i64 k], .bool true]) ∧ ∃ o, w' = w.alloc o) := fun w => refCivil_at y m k f okf ef w
  have CT : Hid (∀ w : World, Calls Tryd.prog 17 #[.int .i64 t] w fun e w' => e = .returned (.tuple #[.agg #[.int .i64 y', .int .i64 m', .int .i64 k'], .bool true]) ∧ ∃ o, w' = w.alloc o) := fun w => refCivil_at y' m' k' t okt et w
  have HN : Hid (th y m k y' m' k' = n) := hn
  have l1 := len_high y m
  have l2 := len_high y' m'
  obtain ⟨y1, y2, m1, m2, k1, k2⟩ := okf
  obtain ⟨y3, y4, m3, m4, k3, k4⟩ := okt
  generalize lenI y m = L at *
  generalize lenI y' m' = L' at *
  clear hn ef et f1 f2 t1 t2
  go_enter Tryd.func54, Tryd.ntmps54
  go_wp2_with fail
  refine (CF.out _).mono ?_
  rintro e w1 ⟨rfl, o1, hw⟩; rw [hw]; clear hw w1
  go_wp2_with fail
  refine (CT.out _).mono ?_
  rintro e w1 ⟨rfl, o2, hw⟩; rw [hw]; clear hw w1
  go_wp2_with fail
  all_goals
    have hn := HN.out
    unfold th at hn
    try simp only [beq_eq_false_iff_ne, ne_eq, beq_iff_eq] at *
    go_ret
    exact ⟨ret_int (by omega), by repeat (first | exact Up.refl _ | refine up_drewN ?_ _ | refine Up.alloc ?_ _)⟩

set_option maxHeartbeats 2000000 in
theorem refBetween_up (f t b n : Int) (g : Bool) (hn : betN f t b = n) (hg : betB f t b = g) (w : World) :
    Calls Tryd.prog 45 #[.int .i64 f, .int .i64 t, .int .i64 b] w fun e w' => e = .returned (.tuple #[.int .i64 n, .bool g]) ∧ Up w w' := by
  by_cases hf : 1 ≤ f ∧ f ≤ 3652059
  · have DF : Hid (∀ w, Calls Tryd.prog 33 #[.int .i64 f] w fun e w' => e = .returned (.bool true) ∧ w' = w) := fun w => refIsDay_at f true (decide_eq_true hf) w
    by_cases ht : 1 ≤ t ∧ t ≤ 3652059
    · have DT : Hid (∀ w, Calls Tryd.prog 33 #[.int .i64 t] w fun e w' => e = .returned (.bool true) ∧ w' = w) := fun w => refIsDay_at t true (decide_eq_true ht) w
      have TF : Hid (∀ w, Calls Tryd.prog 54 #[.int .i64 f, .int .i64 t] w fun e w' => e = .returned (.int .i64 (thN f t)) ∧ Up w w') := fun w => refThirty_at f t _ hf.1 hf.2 ht.1 ht.2 rfl w
      have TT : Hid (∀ w, Calls Tryd.prog 54 #[.int .i64 t, .int .i64 f] w fun e w' => e = .returned (.int .i64 (thN t f)) ∧ Up w w') := fun w => refThirty_at t f _ ht.1 ht.2 hf.1 hf.2 rfl w
      have b1 := th_bound hf.1 hf.2 ht.1 ht.2
      have b2 := th_bound ht.1 ht.2 hf.1 hf.2
      obtain ⟨f1, f2⟩ := hf
      obtain ⟨t1, t2⟩ := ht
      by_cases c0 : b = 0
      · subst c0
        have e1 : betB f t 0 = true := decide_eq_true ⟨⟨f1, f2⟩, ⟨t1, t2⟩, Or.inl rfl⟩
        have e2 : betN f t 0 = t - f := by unfold betN; rw [e1]; simp
        rw [e1] at hg
        rw [e2] at hn
        subst hg hn
        clear e1 e2 TF TT b1 b2
        go_enter Tryd.func45, Tryd.ntmps45
        go_wp2_with fail
        refine (DF.out _).mono ?_
        rintro e w1 ⟨rfl, hw⟩; rw [hw]; clear hw w1
        go_wp2_with fail
        refine (DT.out _).mono ?_
        rintro e w1 ⟨rfl, hw⟩; rw [hw]; clear hw w1
        go_wp2_with fail
        go_ret2
        exact ⟨rfl, Up.refl _⟩
      · by_cases c1 : b = 1
        · subst c1
          have e1 : betB f t 1 = true := decide_eq_true ⟨⟨f1, f2⟩, ⟨t1, t2⟩, Or.inr rfl⟩
          have e2 : betN f t 1 = if f > t then -thN t f else thN f t := by unfold betN; rw [e1]; simp
          rw [e1] at hg
          rw [e2] at hn
          subst hg
          have HN : Hid ((if f > t then -thN t f else thN f t) = n) := hn
          clear e1 e2 hn c0
          generalize thN t f = y1 at *
          generalize thN f t = y2 at *
          by_cases c : f > t
          · go_enter Tryd.func45, Tryd.ntmps45
            go_wp2_with fail
            refine (DF.out _).mono ?_
            rintro e w1 ⟨rfl, hw⟩; rw [hw]; clear hw w1
            go_wp2_with fail
            refine (DT.out _).mono ?_
            rintro e w1 ⟨rfl, hw⟩; rw [hw]; clear hw w1
            go_wp2_with fail
            refine (TT.out _).mono ?_
            rintro e w1 ⟨rfl, U1⟩
            go_wp2_with fail
            go_ret2
            exact ⟨ret_ib (by have := HN.out; rw [if_pos (by omega)] at this; omega) rfl, U1⟩
          · go_enter Tryd.func45, Tryd.ntmps45
            go_wp2_with fail
            refine (DF.out _).mono ?_
            rintro e w1 ⟨rfl, hw⟩; rw [hw]; clear hw w1
            go_wp2_with fail
            refine (DT.out _).mono ?_
            rintro e w1 ⟨rfl, hw⟩; rw [hw]; clear hw w1
            go_wp2_with fail
            refine (TF.out _).mono ?_
            rintro e w1 ⟨rfl, U1⟩
            go_wp2_with fail
            go_ret2
            exact ⟨ret_ib (by have := HN.out; rw [if_neg (by omega)] at this; omega) rfl, U1⟩
        · have e1 : betB f t b = false := decide_eq_false (fun h => by rcases h.2.2 with h | h <;> contradiction)
          have e2 : betN f t b = 0 := by unfold betN; rw [e1]; simp
          rw [e1] at hg
          rw [e2] at hn
          subst hg hn
          clear e1 e2 TF TT b1 b2
          go_enter Tryd.func45, Tryd.ntmps45
          go_wp2_with fail
          refine (DF.out _).mono ?_
          rintro e w1 ⟨rfl, hw⟩; rw [hw]; clear hw w1
          go_wp2_with fail
          refine (DT.out _).mono ?_
          rintro e w1 ⟨rfl, hw⟩; rw [hw]; clear hw w1
          go_wp2_with fail
          go_ret2
          exact ⟨rfl, Up.refl _⟩
    · have DT : Hid (∀ w, Calls Tryd.prog 33 #[.int .i64 t] w fun e w' => e = .returned (.bool false) ∧ w' = w) := fun w => refIsDay_at t false (decide_eq_false ht) w
      have e1 : betB f t b = false := decide_eq_false (fun h => ht h.2.1)
      have e2 : betN f t b = 0 := by unfold betN; rw [e1]; simp
      rw [e1] at hg
      rw [e2] at hn
      subst hg hn
      clear e1 e2 hf ht
      go_enter Tryd.func45, Tryd.ntmps45
      go_wp2_with fail
      refine (DF.out _).mono ?_
      rintro e w1 ⟨rfl, hw⟩; rw [hw]; clear hw w1
      go_wp2_with fail
      refine (DT.out _).mono ?_
      rintro e w1 ⟨rfl, hw⟩; rw [hw]; clear hw w1
      go_wp2_with fail
      go_ret2
      exact ⟨rfl, Up.refl _⟩
  · have DF : Hid (∀ w, Calls Tryd.prog 33 #[.int .i64 f] w fun e w' => e = .returned (.bool false) ∧ w' = w) := fun w => refIsDay_at f false (decide_eq_false hf) w
    have e1 : betB f t b = false := decide_eq_false (fun h => hf h.1)
    have e2 : betN f t b = 0 := by unfold betN; rw [e1]; simp
    rw [e1] at hg
    rw [e2] at hn
    subst hg hn
    clear e1 e2 hf
    go_enter Tryd.func45, Tryd.ntmps45
    go_wp2_with fail
    refine (DF.out _).mono ?_
    rintro e w1 ⟨rfl, hw⟩; rw [hw]; clear hw w1
    go_wp2_with fail
    go_ret2
    exact ⟨rfl, Up.refl _⟩

set_option maxHeartbeats 1000000 in
theorem bets_walk (f : Int) (_ : -9223372036854775808 ≤ f) (_ : f ≤ 9223372036854775807) (t : Int) (_ : -9223372036854775808 ≤ t) (_ : t ≤ 9223372036854775807) (b : Int) (_ : -9223372036854775808 ≤ b) (_ : b ≤ 9223372036854775807) (w : World) (hA : TabA w) :
    Calls Tryd.prog 22 #[.int .i64 f, .int .i64 t, .int .i64 b] w fun e w' => e = .returned (.bool true) ∧ Up w w' := by
  have B1 : Hid (∀ w, TabA w → Calls Tryd.prog 44 #[.int .i64 f, .int .i64 t, .int .i64 b] w fun e w' => e = .returned (.tuple #[.int .i64 (betN f t b), .bool (betB f t b)]) ∧ Up w w') := fun w hA => between_up f t b _ _ rfl rfl w hA
  have B2 : Hid (∀ w, Calls Tryd.prog 45 #[.int .i64 f, .int .i64 t, .int .i64 b] w fun e w' => e = .returned (.tuple #[.int .i64 (betN f t b), .bool (betB f t b)]) ∧ Up w w') := fun w => refBetween_up f t b _ _ rfl rfl w
  generalize betN f t b = n at *
  generalize betB f t b = g at *
  have HA : Hid (TabA w) := hA
  clear hA
  go_enter Tryd.func22, Tryd.ntmps22
  go_wp2_with fail
  refine (B1.out _ HA.out).mono ?_
  rintro e w1 ⟨rfl, U1⟩
  go_wp2_with fail
  refine (B2.out _).mono ?_
  rintro e w2 ⟨rfl, U2⟩
  go_wp2_with fail
  go_ret
  exact ⟨ret_bool (by simp), U1.trans U2⟩
end Go.Proofs.YtnelmgjdbheogacDoor
