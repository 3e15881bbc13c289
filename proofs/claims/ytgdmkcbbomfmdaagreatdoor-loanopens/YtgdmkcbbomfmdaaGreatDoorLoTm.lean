/-
  Ours: termsMayBe (gen_lotm.py).
-/
import Derived.Test.YtgdmkcbbomfmdaaGreatDoorLoBas
namespace Go.Proofs.YtgdmkcbbomfmdaaGreatDoor
open Go.RowKit LedM
/-- The bounds of terms. -/
def tmOk (k P r n s u : Int) : Bool := (decide (0 ≤ k) && decide (k ≤ 2)) && ((decide (1 ≤ P) && decide (P ≤ 10000000000000)) && ((decide (0 ≤ r) && decide (r ≤ 100000)) && ((decide (1 ≤ n) && decide (n ≤ 120)) && ((decide (1 ≤ s) && decide (s ≤ 3652059)) && ((decide (0 ≤ u) && decide (u ≤ 3)))))))
set_option maxRecDepth 20000 in
set_option maxHeartbeats 4000000 in
theorem termsMay_at (k P r n s u : Int) (w : World) : Calls Tryz.prog 28 #[.agg #[.int .i64 k, .int .i64 P, .int .i64 r, .int .i64 n, .int .i64 s, .int .i64 u]] w fun e w' => e = .returned (.bool (tmOk k P r n s u)) ∧ Below w.heap.size w w' := by
  have W0 : Hid (∀ w, Calls Tryz.prog 27 #[.int .i64 k, .int .i64 0, .int .i64 2] w fun e w' => e = .returned (.bool (decide (0 ≤ k) && decide (k ≤ 2))) ∧ w' = w) := fun w => within_at _ _ _ w
  have W1 : Hid (∀ w, Calls Tryz.prog 43 #[.int .i64 P, .int .i64 1, .int .i64 10000000000000] w fun e w' => e = .returned (.bool (decide (1 ≤ P) && decide (P ≤ 10000000000000))) ∧ w' = w) := fun w => within64_at _ _ _ w
  have W2 : Hid (∀ w, Calls Tryz.prog 44 #[.int .i64 r] w fun e w' => e = .returned (.bool (decide (0 ≤ r) && decide (r ≤ 100000))) ∧ w' = w) := fun w => rateMay_at _ w
  have W3 : Hid (∀ w, Calls Tryz.prog 45 #[.int .i64 n] w fun e w' => e = .returned (.bool (decide (1 ≤ n) && decide (n ≤ 120))) ∧ w' = w) := fun w => countMay_at _ w
  have W4 : Hid (∀ w, Calls Tryz.prog 27 #[.int .i64 s, .int .i64 1, .int .i64 3652059] w fun e w' => e = .returned (.bool (decide (1 ≤ s) && decide (s ≤ 3652059))) ∧ w' = w) := fun w => within_at _ _ _ w
  have W5 : Hid (∀ w, Calls Tryz.prog 27 #[.int .i64 u, .int .i64 0, .int .i64 3] w fun e w' => e = .returned (.bool (decide (0 ≤ u) && decide (u ≤ 3))) ∧ w' = w) := fun w => within_at _ _ _ w
  unfold tmOk
  generalize (decide (0 ≤ k) && decide (k ≤ 2)) = b0 at *
  generalize (decide (1 ≤ P) && decide (P ≤ 10000000000000)) = b1 at *
  generalize (decide (0 ≤ r) && decide (r ≤ 100000)) = b2 at *
  generalize (decide (1 ≤ n) && decide (n ≤ 120)) = b3 at *
  generalize (decide (1 ≤ s) && decide (s ≤ 3652059)) = b4 at *
  generalize (decide (0 ≤ u) && decide (u ≤ 3)) = b5 at *
  go_enter Tryz.func28, Tryz.ntmps28
  cases b0
  · go_wp2_with fail
    refine (W0.out _).mono ?_
    rintro e w1 ⟨rfl, hw⟩
    subst hw
    go_wp2_with fail
    go_ret
    exact ⟨rfl, below_alloc _ _⟩
  · cases b1
    · go_wp2_with fail
      refine (W0.out _).mono ?_
      rintro e w1 ⟨rfl, hw⟩
      subst hw
      go_wp2_with fail
      refine (W1.out _).mono ?_
      rintro e w1 ⟨rfl, hw⟩
      subst hw
      go_wp2_with fail
      go_ret
      exact ⟨rfl, below_alloc _ _⟩
    · cases b2
      · go_wp2_with fail
        refine (W0.out _).mono ?_
        rintro e w1 ⟨rfl, hw⟩
        subst hw
        go_wp2_with fail
        refine (W1.out _).mono ?_
        rintro e w1 ⟨rfl, hw⟩
        subst hw
        go_wp2_with fail
        refine (W2.out _).mono ?_
        rintro e w1 ⟨rfl, hw⟩
        subst hw
        go_wp2_with fail
        go_ret
        exact ⟨rfl, below_alloc _ _⟩
      · cases b3
        · go_wp2_with fail
          refine (W0.out _).mono ?_
          rintro e w1 ⟨rfl, hw⟩
          subst hw
          go_wp2_with fail
          refine (W1.out _).mono ?_
          rintro e w1 ⟨rfl, hw⟩
          subst hw
          go_wp2_with fail
          refine (W2.out _).mono ?_
          rintro e w1 ⟨rfl, hw⟩
          subst hw
          go_wp2_with fail
          refine (W3.out _).mono ?_
          rintro e w1 ⟨rfl, hw⟩
          subst hw
          go_wp2_with fail
          go_ret
          exact ⟨rfl, below_alloc _ _⟩
        · cases b4
          · go_wp2_with fail
            refine (W0.out _).mono ?_
            rintro e w1 ⟨rfl, hw⟩
            subst hw
            go_wp2_with fail
            refine (W1.out _).mono ?_
            rintro e w1 ⟨rfl, hw⟩
            subst hw
            go_wp2_with fail
            refine (W2.out _).mono ?_
            rintro e w1 ⟨rfl, hw⟩
            subst hw
            go_wp2_with fail
            refine (W3.out _).mono ?_
            rintro e w1 ⟨rfl, hw⟩
            subst hw
            go_wp2_with fail
            refine (W4.out _).mono ?_
            rintro e w1 ⟨rfl, hw⟩
            subst hw
            go_wp2_with fail
            go_ret
            exact ⟨rfl, below_alloc _ _⟩
          · cases b5
            · go_wp2_with fail
              refine (W0.out _).mono ?_
              rintro e w1 ⟨rfl, hw⟩
              subst hw
              go_wp2_with fail
              refine (W1.out _).mono ?_
              rintro e w1 ⟨rfl, hw⟩
              subst hw
              go_wp2_with fail
              refine (W2.out _).mono ?_
              rintro e w1 ⟨rfl, hw⟩
              subst hw
              go_wp2_with fail
              refine (W3.out _).mono ?_
              rintro e w1 ⟨rfl, hw⟩
              subst hw
              go_wp2_with fail
              refine (W4.out _).mono ?_
              rintro e w1 ⟨rfl, hw⟩
              subst hw
              go_wp2_with fail
              refine (W5.out _).mono ?_
              rintro e w1 ⟨rfl, hw⟩
              subst hw
              go_wp2_with fail
              go_ret
              exact ⟨rfl, below_alloc _ _⟩
            · go_wp2_with fail
              refine (W0.out _).mono ?_
              rintro e w1 ⟨rfl, hw⟩
              subst hw
              go_wp2_with fail
              refine (W1.out _).mono ?_
              rintro e w1 ⟨rfl, hw⟩
              subst hw
              go_wp2_with fail
              refine (W2.out _).mono ?_
              rintro e w1 ⟨rfl, hw⟩
              subst hw
              go_wp2_with fail
              refine (W3.out _).mono ?_
              rintro e w1 ⟨rfl, hw⟩
              subst hw
              go_wp2_with fail
              refine (W4.out _).mono ?_
              rintro e w1 ⟨rfl, hw⟩
              subst hw
              go_wp2_with fail
              refine (W5.out _).mono ?_
              rintro e w1 ⟨rfl, hw⟩
              subst hw
              go_wp2_with fail
              go_ret
              exact ⟨rfl, below_alloc _ _⟩
end Go.Proofs.YtgdmkcbbomfmdaaGreatDoor
