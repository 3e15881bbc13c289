/-
  Ours: the walk of InterestCheaper.
-/
import Derived.Test.YtkabfdajpilomabIntLev
namespace Go.Proofs.Ytkabfdajpilomab
open Go.RowKit IntM

set_option maxHeartbeats 1000000 in
theorem chp_in (P r : Int) (n : Nat) (a0 : 1 ≤ P) (a1 : P + 1 ≤ 10000000000000) (r0 : 0 ≤ r) (r1 : r ≤ 100000) (c1 : ((n + 1 : Nat) : Int) + 1 ≤ 120) (w : World) :
    Calls Try.prog 3 #[.int .i64 P, .int .i64 r, .int .i64 ((n + 1 : Nat) : Int)] w fun e w' => e = .returned (.bool true) ∧ Grown w w' := by
  have EA : Hid (∀ w, Calls Try.prog 6 #[.int .i64 P, .int .i64 r, .int .i64 ((n + 1 : Nat) : Int)] w fun e w' => e = .returned (.bool true) ∧ w' = w) := fun w => lending_at P r _ _ (decide_eq_true (by omega)) w
  have EB : Hid (∀ w, Calls Try.prog 6 #[.int .i64 (P + 1), .int .i64 r, .int .i64 (((n + 1 : Nat) : Int) + 1)] w fun e w' => e = .returned (.bool true) ∧ w' = w) := fun w => lending_at (P + 1) r _ _ (decide_eq_true (by omega)) w
  obtain ⟨p, hp, p1⟩ := lv_lend n a0 (by omega : P ≤ 10000000000000) r0 r1
  obtain ⟨q, hq, q1⟩ := lv_lend (n + 1) a0 (by omega : P ≤ 10000000000000) r0 r1
  obtain ⟨g, hg, g1⟩ := lv_lend n (by omega : 1 ≤ P + 1) a1 r0 r1
  have h1 := lv_longer hp hq
  have h2 := lv_greater r0 (by omega : P ≤ P + 1) hp hg
  have p0 := hp.1
  have q0 := hq.1
  have L1 : Hid (∀ w, Calls Try.prog 7 #[.int .i64 P, .int .i64 r, .int .i64 ((n + 1 : Nat) : Int)] w fun e w' => e = .returned (.tuple #[.int .i64 p, .bool true]) ∧ Grown w w') := fun w =>
    (level_at P r p (n + 1) a0 (by omega) r0 r1 (by omega) (by omega) hp w).mono fun e w' ⟨he, m, hw⟩ => ⟨he, by rw [hw]; exact boxed_grown _ _ _ _ _⟩
  have L2 : Hid (∀ w, Calls Try.prog 7 #[.int .i64 P, .int .i64 r, .int .i64 (((n + 1 : Nat) : Int) + 1)] w fun e w' => e = .returned (.tuple #[.int .i64 q, .bool true]) ∧ Grown w w') := fun w =>
    (level_at P r q (n + 1 + 1) a0 (by omega) r0 r1 (by omega) (by omega) hq w).mono fun e w' ⟨he, m, hw⟩ => ⟨he, by rw [hw]; exact boxed_grown _ _ _ _ _⟩
  have L3 : Hid (∀ w, Calls Try.prog 7 #[.int .i64 (P + 1), .int .i64 r, .int .i64 ((n + 1 : Nat) : Int)] w fun e w' => e = .returned (.tuple #[.int .i64 g, .bool true]) ∧ Grown w w') := fun w =>
    (level_at (P + 1) r g (n + 1) (by omega) (by omega) r0 r1 (by omega) (by omega) hg w).mono fun e w' ⟨he, m, hw⟩ => ⟨he, by rw [hw]; exact boxed_grown _ _ _ _ _⟩
  clear hp hq hg p1 q1 g1
  have c0 : (1 : Int) ≤ ((n + 1 : Nat) : Int) := by omega
  generalize hc : ((n + 1 : Nat) : Int) = c at *
  clear hc
  go_enter Try.func3, Try.ntmps3
  go_wp2_with fail
  refine (EA.out _).mono ?_
  rintro e w1 ⟨rfl, hw⟩; rw [hw]; clear hw w1
  go_wp2_with fail
  refine (EB.out _).mono ?_
  rintro e w1 ⟨rfl, hw⟩; rw [hw]; clear hw w1
  go_wp2_with fail
  refine (L1.out _).mono ?_
  rintro e w1 ⟨rfl, G1⟩
  go_wp2_with fail
  refine (L2.out _).mono ?_
  rintro e w2 ⟨rfl, G2⟩
  go_wp2_with fail
  refine (L3.out _).mono ?_
  rintro e w3 ⟨rfl, G3⟩
  go_wp2_with fail
  go_ret
  exact ⟨rfl, grown_trans G1 (grown_trans G2 G3)⟩

theorem chp_walk (P : Int) (_ : -9223372036854775808 ≤ P) (P1 : P ≤ 9223372036854775807) (r : Int) (_ : -9223372036854775808 ≤ r) (_ : r ≤ 9223372036854775807) (c : Int) (_ : -9223372036854775808 ≤ c) (c1 : c ≤ 9223372036854775807) (w : World) :
    Calls Try.prog 3 #[.int .i64 P, .int .i64 r, .int .i64 c] w fun e w' => e = .returned (.bool true) ∧ Grown w w' := by
  have EA : Hid (∀ w, Calls Try.prog 6 #[.int .i64 P, .int .i64 r, .int .i64 c] w fun e w' => e = .returned (.bool (lendB P r c)) ∧ w' = w) := fun w => lending_at P r c _ rfl w
  cases he : lendB P r c
  · rw [he] at EA
    go_enter Try.func3, Try.ntmps3
    go_wp2_with fail
    refine (EA.out _).mono ?_
    rintro e w1 ⟨rfl, hw⟩; rw [hw]; clear hw w1
    go_wp2_with fail
    go_ret
    exact ⟨rfl, Grown.refl w⟩
  · rw [he] at EA
    obtain ⟨a0, a1, r0, r1, c0, c2⟩ := of_decide_eq_true he
    by_cases hb : P + 1 ≤ 10000000000000 ∧ c + 1 ≤ 120
    · obtain ⟨n, rfl⟩ : ∃ n : Nat, c = ((n + 1 : Nat) : Int) := ⟨(c - 1).toNat, by omega⟩
      exact chp_in P r n a0 hb.1 r0 r1 hb.2 w
    · have EB : Hid (∀ w, Calls Try.prog 6 #[.int .i64 (P + 1), .int .i64 r, .int .i64 (c + 1)] w fun e w' => e = .returned (.bool false) ∧ w' = w) := fun w => lending_at (P + 1) r _ _ (decide_eq_false (by omega)) w
      go_enter Try.func3, Try.ntmps3
      go_wp2_with fail
      refine (EA.out _).mono ?_
      rintro e w1 ⟨rfl, hw⟩; rw [hw]; clear hw w1
      go_wp2_with fail
      refine (EB.out _).mono ?_
      rintro e w1 ⟨rfl, hw⟩; rw [hw]; clear hw w1
      go_wp2_with fail
      go_ret
      exact ⟨rfl, Grown.refl w⟩
end Go.Proofs.Ytkabfdajpilomab
