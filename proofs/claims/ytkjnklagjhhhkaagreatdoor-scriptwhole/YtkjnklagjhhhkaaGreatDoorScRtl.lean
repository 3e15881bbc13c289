/-
  Ours: the reference's tell and Format (gen_scrfm.py).
-/
import Derived.Test.YtkjnklagjhhhkaaGreatDoorScFmt
import Derived.Test.YtkjnklagjhhhkaaGreatDoorScWrd
import Derived.Test.YtkjnklagjhhhkaaGreatDoorScDig
import Derived.Test.YtkjnklagjhhhkaaGreatDoorMexC
namespace Go.Proofs.YtkjnklagjhhhkaaGreatDoor
open Go.RowKit Go.Lib ScF

/-- A number by its length, as the document tells it. -/
theorem whole_yes {n : Int} (h : i64 n) (hl : (itoa n).length ≤ 18 ∨ (n < 0 ∧ (itoa n).length = 19)) : wholeT n = some (itoa n) := if_pos ((whole_iff n h).1 hl)
theorem whole_no {n : Int} (h : i64 n) (hl : ¬ ((itoa n).length ≤ 18 ∨ (n < 0 ∧ (itoa n).length = 19))) : wholeT n = none := if_neg (fun e => hl ((whole_iff n h).2 e))

theorem clean_snoc {t : List UInt8} {i : Nat} (hi : i < t.length) (h : clean (t.take i) = true) (h1 : (t.getD i 0).toNat ≠ 32) (h2 : (t.getD i 0).toNat ≠ 10) : clean (t.take (i + 1)) = true := by
  unfold clean at h ⊢
  rw [List.take_add_one, List.all_append, h, List.getElem?_eq_getElem hi]
  rw [List.getD_eq_getElem?_getD, List.getElem?_eq_getElem hi] at h1 h2
  have e1 : t[i] ≠ 32 := fun e => h1 (by rw [e]; rfl)
  have e2 : t[i] ≠ 10 := fun e => h2 (by rw [e]; rfl)
  simp [e1, e2]
theorem clean_hit {t : List UInt8} {i : Nat} (hi : i < t.length) (h : (t.getD i 0).toNat = 32 ∨ (t.getD i 0).toNat = 10) : clean t = false := by
  unfold clean
  rw [List.all_eq_false]
  rw [List.getD_eq_getElem?_getD, List.getElem?_eq_getElem hi] at h
  refine ⟨t[i], List.getElem_mem hi, ?_⟩
  rcases h with e | e
  · have : t[i] = 32 := UInt8.toNat_inj.1 e
    rw [this]; decide
  · have : t[i] = 10 := UInt8.toNat_inj.1 e
    rw [this]; decide

end Go.Proofs.YtkjnklagjhhhkaaGreatDoor
