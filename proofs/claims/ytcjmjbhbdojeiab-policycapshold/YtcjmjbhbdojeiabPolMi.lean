/-
  Ours: the numbers of a policy that was made lie in an int64.
-/
import Derived.Test.YtcjmjbhbdojeiabPolMade
namespace Go.Proofs.Ytcjmjbhbdojeiab
open Go.RowKit LedM PolM
theorem made_i64 (l : List Int) (k : Nat) : i64 ((madeL l).getD k 0) := by
  by_cases hk : k < 17
  · have h := made_fld l k hk
    have h1 := made_fld l 1 (by omega)
    have h5 := made_fld l 5 (by omega)
    have h14 := made_fld l 14 (by omega)
    have e1 : frm (madeL l) 1 = 0 := rfl
    have e5 : frm (madeL l) 5 = 0 := rfl
    have e14 : frm (madeL l) 14 = 1 := rfl
    have e2 : frm (madeL l) 2 = (madeL l).getD 1 0 + 1 := rfl
    have e6 : frm (madeL l) 6 = (madeL l).getD 5 0 := rfl
    have e15 : frm (madeL l) 15 = (madeL l).getD 14 0 := rfl
    have lo : 0 ≤ frm (madeL l) k := by
      match k, hk with
      | 0, _ => exact (by decide : (0 : Int) ≤ 1)
      | 1, _ => exact (by decide : (0 : Int) ≤ 0)
      | 2, _ => rw [e2]; omega
      | 3, _ => exact (by decide : (0 : Int) ≤ 1)
      | 4, _ => exact (by decide : (0 : Int) ≤ 0)
      | 5, _ => exact (by decide : (0 : Int) ≤ 0)
      | 6, _ => rw [e6]; omega
      | 7, _ => exact (by decide : (0 : Int) ≤ 0)
      | 8, _ => exact (by decide : (0 : Int) ≤ 0)
      | 9, _ => exact (by decide : (0 : Int) ≤ 0)
      | 10, _ => exact (by decide : (0 : Int) ≤ 1)
      | 11, _ => exact (by decide : (0 : Int) ≤ 0)
      | 12, _ => exact (by decide : (0 : Int) ≤ 0)
      | 13, _ => exact (by decide : (0 : Int) ≤ 0)
      | 14, _ => exact (by decide : (0 : Int) ≤ 1)
      | 15, _ => rw [e15]; omega
      | 16, _ => exact (by decide : (0 : Int) ≤ 0)
      | k + 17, h => omega
    have up : tov k ≤ 1000000000 := by
      match k, hk with
      | 0, _ => decide
      | 1, _ => decide
      | 2, _ => decide
      | 3, _ => decide
      | 4, _ => decide
      | 5, _ => decide
      | 6, _ => decide
      | 7, _ => decide
      | 8, _ => decide
      | 9, _ => decide
      | 10, _ => decide
      | 11, _ => decide
      | 12, _ => decide
      | 13, _ => decide
      | 14, _ => decide
      | 15, _ => decide
      | 16, _ => decide
      | k + 17, h => omega
    unfold i64
    omega
  · have : (madeL l).getD k 0 = 0 := by
      rw [List.getD_eq_getElem?_getD, List.getElem?_eq_none (by rw [made_len]; omega)]; rfl
    rw [this]
    exact ⟨by decide, by decide⟩

end Go.Proofs.Ytcjmjbhbdojeiab
