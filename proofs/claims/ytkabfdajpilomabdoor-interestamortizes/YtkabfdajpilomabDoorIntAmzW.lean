/-
  Ours: the walk of InterestAmortizes at any terms.
-/
import Derived.Test.YtkabfdajpilomabDoorIntAmzA
import Derived.Test.YtkabfdajpilomabDoorIntAmzB
import Derived.Test.YtkabfdajpilomabDoorIntAmzC
namespace Go.Proofs.YtkabfdajpilomabDoor
open Go.RowKit IntM CalM

set_option maxRecDepth 100000 in
set_option maxHeartbeats 4000000 in
theorem amz_out (kind P r n start rule : Int) (L : Nat) (h : ¬ (lendB P r n = true ∧ 0 ≤ kind ∧ kind ≤ 2 ∧ 0 ≤ rule ∧ rule ≤ 3 ∧ 1 ≤ start ∧ start ≤ 3640000 ∧ (L : Int) ≤ 4)) (a : Option Addr) (cap : Nat) (w : World) :
    Calls Tryd.prog 4 #[termsV kind P r n start rule, .slice a L cap] w fun e w' => e = .returned (.bool true) ∧ Up w w' := by
  have EA : Hid (∀ w, Calls Tryd.prog 7 #[.int .i64 P, .int .i64 r, .int .i64 n] w fun e w' => e = .returned (.bool (lendB P r n)) ∧ w' = w) := fun w => lending_at P r n _ rfl w
  unfold termsV
  cases he : lendB P r n
  · rw [he] at EA
    clear h
    go_enter Tryd.func4, Tryd.ntmps4
    go_wp2_with fail
    refine (EA.out _).mono ?_
    rintro e w1 ⟨rfl, hw⟩; rw [hw]; clear hw w1
    go_wp2_with fail
    go_ret
    exact ⟨rfl, (Up.refl w).alloc _⟩
  · rw [he] at EA
    have HO : Hid (¬ (0 ≤ kind ∧ kind ≤ 2 ∧ 0 ≤ rule ∧ rule ≤ 3 ∧ 1 ≤ start ∧ start ≤ 3640000 ∧ (L : Int) ≤ 4)) := fun g => h ⟨he, g⟩
    have hc : ¬ 0 ≤ kind ∨ (0 ≤ kind ∧ ¬ kind ≤ 2) ∨ (0 ≤ kind ∧ kind ≤ 2 ∧ ¬ 0 ≤ rule) ∨ (0 ≤ kind ∧ kind ≤ 2 ∧ 0 ≤ rule ∧ ¬ rule ≤ 3) ∨ (0 ≤ kind ∧ kind ≤ 2 ∧ 0 ≤ rule ∧ rule ≤ 3 ∧ ¬ 1 ≤ start) ∨ (0 ≤ kind ∧ kind ≤ 2 ∧ 0 ≤ rule ∧ rule ≤ 3 ∧ 1 ≤ start ∧ ¬ start ≤ 3640000) ∨ (0 ≤ kind ∧ kind ≤ 2 ∧ 0 ≤ rule ∧ rule ≤ 3 ∧ 1 ≤ start ∧ start ≤ 3640000 ∧ ¬ (L : Int) ≤ 4) := by
      have := HO.out
      omega
    clear h he HO
    rcases hc with h1 | ⟨h1, h2⟩ | ⟨h1, h2, h3⟩ | ⟨h1, h2, h3, h4⟩ | ⟨h1, h2, h3, h4, h5⟩ | ⟨h1, h2, h3, h4, h5, h6⟩ | ⟨h1, h2, h3, h4, h5, h6, h7⟩
    all_goals
      go_enter Tryd.func4, Tryd.ntmps4
      go_wp2_with fail
      refine (EA.out _).mono ?_
      rintro e w1 ⟨rfl, hw⟩; rw [hw]; clear hw w1
      go_wp2_with fail
      go_ret
      exact ⟨rfl, (Up.refl w).alloc _⟩

theorem amz_walk (kind P r n start rule : Int) (_ : -9223372036854775808 ≤ start) (_ : start ≤ 9223372036854775807) (a : Option Addr) (cap : Nat) (xs : List Int) (w : World) (hA : TabA w) (hL : TabL w) (hS : SlOk w a xs) :
    Calls Tryd.prog 4 #[termsV kind P r n start rule, .slice a xs.length cap] w fun e w' => e = .returned (.bool true) ∧ Up w w' := by
  by_cases h : lendB P r n = true ∧ 0 ≤ kind ∧ kind ≤ 2 ∧ 0 ≤ rule ∧ rule ≤ 3 ∧ 1 ≤ start ∧ start ≤ 3640000 ∧ (xs.length : Int) ≤ 4
  · obtain ⟨hl, k0, k1, u0, u1, s1, s2, hx⟩ := h
    have hl' := of_decide_eq_true hl
    obtain ⟨m, rfl⟩ : ∃ m : Nat, n = (m : Int) := ⟨n.toNat, by omega⟩
    have hv : validB kind P r m start rule = true := decide_eq_true (by omega)
    by_cases hk : kind = 2
    · by_cases hm : mon P r = 0
      · exact amz_inA kind P r start rule m ⟨hk, hm⟩ hv s2 a cap xs (by omega) w hA hL hS
      · exact amz_inC kind P r start rule m ⟨hk, hm⟩ hv s2 a cap xs (by omega) w hA hL hS
    · exact amz_inB kind P r start rule m hk hv s2 a cap xs (by omega) w hA hL hS
  · exact amz_out kind P r n start rule xs.length h a cap w
end Go.Proofs.YtkabfdajpilomabDoor
