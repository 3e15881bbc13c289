/-
  Ours: the invariant, a step on: pure.
-/
import Derived.Test.YtmbbigkpeefjjabDoorCoInv
namespace Go.Proofs.YtmbbigkpeefjjabDoor
namespace CoM
open LedM PolM Go.RowKit
theorem inv_next {l hs : List Int} {c : Cs} {e : Ev} {k : Nat} (hI : Inv (pn l) (k : Int) c ∨ good l hs = false) (hk : k < 4398046511104) (E : EvOk e) : Inv (pn l) ((k + 1 : Nat) : Int) (stepA l hs c e).2.1 ∨ good l hs = false := by
  cases hg : good l hs
  · exact .inr rfl
  · have I : Inv (pn l) (k : Int) c := hI.resolve_right (by rw [hg]; decide)
    refine .inl ?_
    by_cases h0 : (stepA l hs c e).1 = 0
    · have := (step_fact rfl (pol_of hg) I (by omega) E h0).inv
      rwa [show (k : Int) + 1 = ((k + 1 : Nat) : Int) from by omega] at this
    · rw [step_no h0]; exact I.mono (by omega)
end CoM
end Go.Proofs.YtmbbigkpeefjjabDoor
