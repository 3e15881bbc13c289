/-
  Ours: interest.isRate.
-/
import Derived.Test.YtkabfdajpilomabDoorSmall
namespace Go.Proofs.YtkabfdajpilomabDoor
open Go.RowKit

theorem ret_boolI {a b : Bool} (h : a = b) : Ending.returned (.bool a) = .returned (.bool b) := by rw [h]

def rateB (x : Int) : Bool := decide (0 ≤ x ∧ x ≤ 100000)

theorem isRate_at (x : Int) (b : Bool) (h : rateB x = b) (w : World) :
    Calls Tryd.prog 22 #[.int .i64 x] w fun e w' => e = .returned (.bool b) ∧ w' = w := by
  subst h
  by_cases h : 0 ≤ x
  · by_cases h' : x ≤ 100000
    · have e : rateB x = true := by simp [rateB]; omega
      rw [e]; clear e
      go_enter Tryd.func22, Tryd.ntmps22
      go_wp2
      go_ret
      exact ⟨rfl, rfl⟩
    · have e : rateB x = false := by simp [rateB]; omega
      rw [e]; clear e
      go_enter Tryd.func22, Tryd.ntmps22
      go_wp2
      go_ret
      exact ⟨rfl, rfl⟩
  · have e : rateB x = false := by simp [rateB]; omega
    rw [e]; clear e
    go_enter Tryd.func22, Tryd.ntmps22
    go_wp2
    go_ret
    exact ⟨rfl, rfl⟩

end Go.Proofs.YtkabfdajpilomabDoor
