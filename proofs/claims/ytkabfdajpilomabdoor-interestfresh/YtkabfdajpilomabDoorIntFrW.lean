/-
  Ours: the walk of InterestFresh at any terms.
-/
import Derived.Test.YtkabfdajpilomabDoorIntFrA
import Derived.Test.YtkabfdajpilomabDoorIntFrB
import Derived.Test.YtkabfdajpilomabDoorIntFrC
namespace Go.Proofs.YtkabfdajpilomabDoor
open Go.RowKit IntM CalM

theorem fresh_walk (kind P r n start rule kind' P' r' n' start' rule' : Int) (w : World) (hA : TabA w) (hL : TabL w) :
    Calls Tryd.prog 3 #[termsV kind P r n start rule, termsV kind' P' r' n' start' rule'] w fun e w' => e = .returned (.bool true) ∧ Up w w' := by
  have N1 := planO_len kind P r n start rule []
  have M1 := planO_len kind' P' r' n' start' rule' []
  have PL := fun (ok : Bool) (h : (planO kind P r n start rule []).isSome = ok) (w : World) (hA : TabA w) (hL : TabL w) => plan_nil kind P r n start rule _ _ ok rfl rfl h w hA hL
  have PU := fun (w : World) (hA : TabA w) (hL : TabL w) => plan_nil kind' P' r' n' start' rule' _ _ _ rfl rfl rfl w hA hL
  have MZ : (planO kind' P' r' n' start' rule' []).isSome = false → ((planO kind' P' r' n' start' rule' []).getD []).length = 0 := fun e => by
    cases hp : planO kind' P' r' n' start' rule' [] with
    | none => rfl
    | some x => rw [hp] at e; cases e
  by_cases k0 : 0 ≤ kind
  case neg => exact fresh_k0 kind P r n start rule kind' P' r' n' start' rule' _ _ _ _ _ _ N1 M1 rfl rfl (PL _ rfl) PU MZ k0 w hA hL
  by_cases k1 : kind ≤ 2
  case neg => exact fresh_k1 kind P r n start rule kind' P' r' n' start' rule' _ _ _ _ _ _ N1 M1 rfl rfl (PL _ rfl) PU MZ k0 k1 w hA hL
  cases hl : lendB P r n with
  | false => exact fresh_L kind P r n start rule kind' P' r' n' start' rule' _ _ _ _ _ _ N1 M1 rfl rfl (PL _ rfl) PU MZ (fun w => lending_at P r n _ hl w) k0 k1 w hA hL
  | true =>
    have EA := fun w => lending_at P r n _ hl w
    by_cases s0 : 1 ≤ start
    case neg => exact fresh_s0 kind P r n start rule kind' P' r' n' start' rule' _ _ _ _ _ _ N1 M1 rfl rfl (PL _ rfl) PU MZ EA k0 k1 s0 w hA hL
    by_cases s1 : start ≤ 3640000
    case neg => exact fresh_s1 kind P r n start rule kind' P' r' n' start' rule' _ _ _ _ _ _ N1 M1 rfl rfl (PL _ rfl) PU MZ EA k0 k1 s0 s1 w hA hL
    by_cases u0 : 0 ≤ rule
    case neg => exact fresh_u0 kind P r n start rule kind' P' r' n' start' rule' _ _ _ _ _ _ N1 M1 rfl rfl (PL _ rfl) PU MZ EA k0 k1 s0 s1 u0 w hA hL
    by_cases u1 : rule ≤ 3
    case neg => exact fresh_u1 kind P r n start rule kind' P' r' n' start' rule' _ _ _ _ _ _ N1 M1 rfl rfl (PL _ rfl) PU MZ EA k0 k1 s0 s1 u0 u1 w hA hL
    have hl' := of_decide_eq_true hl
    have hv : validB kind P r n start rule = true := decide_eq_true (by omega)
    obtain ⟨rs, hrs, _⟩ := amort (xs := []) hv (by simp) s1
    exact fresh_all kind P r n start rule kind' P' r' n' start' rule' _ _ _ _ _ N1 M1 rfl rfl (PL true (by rw [hrs]; rfl)) PU MZ EA k0 k1 s0 s1 u0 u1 w hA hL
end Go.Proofs.YtkabfdajpilomabDoor
