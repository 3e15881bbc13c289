/-
  Ours: balances by side: LedgerSides.
-/
import Derived.Test.YtkmmpffkmoaceabDoorLedKept
import Derived.Test.YtkmmpffkmoaceabDoorLedSidM
import Derived.Test.YtkmmpffkmoaceabDoorLedTrial
namespace Go.Proofs.YtkmmpffkmoaceabDoor
open Go.RowKit LedM

set_option maxRecDepth 20000 in
set_option maxHeartbeats 8000000 in
theorem sides_out (l : List Int) (a : Int) (w : World) (hl : BkOk l) (a0 : -9223372036854775808 ≤ a) (a1 : a ≤ 9223372036854775807) (hT : TabD w) (hA : isA a = false) :
    Calls Tryd.prog 5 #[.agg (bkL l).toArray, .int .i64 a] w fun e w' => e = .returned (.bool true) ∧ Below w.heap.size w w' := by
  have KP : Hid (Kept w [(w.heap.size, l)] (w.alloc (.cells (bkL l).toArray 24))) := Kept.first w l hl.1
  have BAL : Hid (∀ a' w', Below w.heap.size w w' → Calls Tryd.prog 14 #[.agg (bkL l).toArray, .int .i64 a'] w' fun e w2 => e = .returned (.tuple #[.int .i64 (balV l a'), .int .i64 (balE l a')]) ∧ Below w'.heap.size w' w2) := fun a' w' hb => balance_at l a' w' hl (hT.later hb)
  have DEB : Hid (∀ a' w', Below w.heap.size w w' → Calls Tryd.prog 15 #[.int .i64 a'] w' fun e w2 => e = .returned (.bool (isD a')) ∧ w2 = w') := fun a' w' hb => debits_at a' w' (hT.later hb)
  obtain ⟨v1, v2⟩ := bal_out (l := l) hA
  have B1 : Hid (∀ w', Below w.heap.size w w' → Calls Tryd.prog 14 #[.agg (bkL l).toArray, .int .i64 a] w' fun e w2 => e = .returned (.tuple #[.int .i64 0, .int .i64 80]) ∧ Below w'.heap.size w' w2) := fun w' hb => by have := BAL.out a w' hb; rwa [v1, v2] at this
  have dD : isD a = false := by
    cases h : isD a
    · rfl
    · rw [isD_A h] at hA; cases hA
  have D1 : Hid (∀ w', Below w.heap.size w w' → Calls Tryd.prog 15 #[.int .i64 a] w' fun e w2 => e = .returned (.bool false) ∧ w2 = w') := fun w' hb => by have := DEB.out a w' hb; rwa [dD] at this
  have hc : a < 0 ∨ 11 < a := by simp [isA] at hA; omega
  clear v1 v2 dD BAL DEB hl hT hA
  by_cases q : a < 0
  · have e1 : decide (a < 0) = true := decide_eq_true q
    clear q hc
    go_enter Tryd.func5, Tryd.ntmps5
    go_wp2_with (first
  | (refine step_get KP.out 0 rfl rfl _ rfl rfl ?_))
    refine (B1.out _ KP.out.bb).mono ?_
    rintro e w1 ⟨rfl, bw1⟩
    have KP' : Kept _ _ w1 := KP.out.call bw1
    clear KP bw1
    have KP : Hid (Kept _ _ w1) := KP'
    clear KP'
    go_wp2_with fail
    refine (D1.out _ KP.out.bb).mono ?_
    rintro e w3 ⟨rfl, rfl⟩
    go_wp2_with fail
    go_ret
    exact ⟨rfl, KP.out.bb⟩
  · have e1 : decide (a < 0) = false := decide_eq_false q
    have e2 : decide (11 < a) = true := decide_eq_true (by omega)
    clear q hc
    go_enter Tryd.func5, Tryd.ntmps5
    go_wp2_with (first
  | (refine step_get KP.out 0 rfl rfl _ rfl rfl ?_))
    refine (B1.out _ KP.out.bb).mono ?_
    rintro e w1 ⟨rfl, bw1⟩
    have KP' : Kept _ _ w1 := KP.out.call bw1
    clear KP bw1
    have KP : Hid (Kept _ _ w1) := KP'
    clear KP'
    go_wp2_with fail
    refine (D1.out _ KP.out.bb).mono ?_
    rintro e w3 ⟨rfl, rfl⟩
    go_wp2_with fail
    go_ret
    exact ⟨rfl, KP.out.bb⟩
end Go.Proofs.YtkmmpffkmoaceabDoor
