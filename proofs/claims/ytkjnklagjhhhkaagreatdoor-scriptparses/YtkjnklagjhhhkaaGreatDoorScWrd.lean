/-
  Ours: the reference's word and shape (gen_sctel.py).
-/
import Derived.Test.YtkjnklagjhhhkaaGreatDoorScCmd
namespace Go.Proofs.YtkjnklagjhhhkaaGreatDoor
open Go.RowKit Go.Lib ScF

def wordI (k : Int) : List UInt8 := if 1 ≤ k ∧ k ≤ 21 then wordN k.toNat else []
def shapeI (k : Int) : List UInt8 := if 1 ≤ k ∧ k ≤ 21 then (slotN k.toNat).map (fun s => UInt8.ofNat (letN s)) else []

set_option maxRecDepth 40000 in
set_option maxHeartbeats 4000000 in
theorem rword_at (k : Int) (w : World) : Calls Tryz.prog 26 #[.int .i64 k] w fun e w' => e = .returned (.string ⟨(wordI k).toArray⟩) ∧ w' = w := by
  by_cases h : 1 ≤ k ∧ k ≤ 21
  · have hk : k = 1 ∨ k = 2 ∨ k = 3 ∨ k = 4 ∨ k = 5 ∨ k = 6 ∨ k = 7 ∨ k = 8 ∨ k = 9 ∨ k = 10 ∨ k = 11 ∨ k = 12 ∨ k = 13 ∨ k = 14 ∨ k = 15 ∨ k = 16 ∨ k = 17 ∨ k = 18 ∨ k = 19 ∨ k = 20 ∨ k = 21 := by omega
    rcases hk with rfl | rfl | rfl | rfl | rfl | rfl | rfl | rfl | rfl | rfl | rfl | rfl | rfl | rfl | rfl | rfl | rfl | rfl | rfl | rfl | rfl
    all_goals
      go_enter Tryz.func26, Tryz.ntmps26
      go_wp2_with fail
      go_ret
      exact ⟨rfl, rfl⟩
  · have E : Hid (wordI k = []) := if_neg h
    rw [E.out]
    have d1 : (k == 1) = false := beq_eq_false_iff_ne.2 (by omega)
    have d2 : (k == 2) = false := beq_eq_false_iff_ne.2 (by omega)
    have d3 : (k == 3) = false := beq_eq_false_iff_ne.2 (by omega)
    have d4 : (k == 4) = false := beq_eq_false_iff_ne.2 (by omega)
    have d5 : (k == 5) = false := beq_eq_false_iff_ne.2 (by omega)
    have d6 : (k == 6) = false := beq_eq_false_iff_ne.2 (by omega)
    have d7 : (k == 7) = false := beq_eq_false_iff_ne.2 (by omega)
    have d8 : (k == 8) = false := beq_eq_false_iff_ne.2 (by omega)
    have d9 : (k == 9) = false := beq_eq_false_iff_ne.2 (by omega)
    have d10 : (k == 10) = false := beq_eq_false_iff_ne.2 (by omega)
    have d11 : (k == 11) = false := beq_eq_false_iff_ne.2 (by omega)
    have d12 : (k == 12) = false := beq_eq_false_iff_ne.2 (by omega)
    have d13 : (k == 13) = false := beq_eq_false_iff_ne.2 (by omega)
    have d14 : (k == 14) = false := beq_eq_false_iff_ne.2 (by omega)
    have d15 : (k == 15) = false := beq_eq_false_iff_ne.2 (by omega)
    have d16 : (k == 16) = false := beq_eq_false_iff_ne.2 (by omega)
    have d17 : (k == 17) = false := beq_eq_false_iff_ne.2 (by omega)
    have d18 : (k == 18) = false := beq_eq_false_iff_ne.2 (by omega)
    have d19 : (k == 19) = false := beq_eq_false_iff_ne.2 (by omega)
    have d20 : (k == 20) = false := beq_eq_false_iff_ne.2 (by omega)
    have d21 : (k == 21) = false := beq_eq_false_iff_ne.2 (by omega)
    clear E h
    go_enter Tryz.func26, Tryz.ntmps26
    go_wp2_with fail
    go_ret
    exact ⟨rfl, rfl⟩

set_option maxRecDepth 40000 in
set_option maxHeartbeats 4000000 in
theorem rshape_at (k : Int) (w : World) : Calls Tryz.prog 27 #[.int .i64 k] w fun e w' => e = .returned (.string ⟨(shapeI k).toArray⟩) ∧ w' = w := by
  by_cases h : 1 ≤ k ∧ k ≤ 21
  · have hk : k = 1 ∨ k = 2 ∨ k = 3 ∨ k = 4 ∨ k = 5 ∨ k = 6 ∨ k = 7 ∨ k = 8 ∨ k = 9 ∨ k = 10 ∨ k = 11 ∨ k = 12 ∨ k = 13 ∨ k = 14 ∨ k = 15 ∨ k = 16 ∨ k = 17 ∨ k = 18 ∨ k = 19 ∨ k = 20 ∨ k = 21 := by omega
    rcases hk with rfl | rfl | rfl | rfl | rfl | rfl | rfl | rfl | rfl | rfl | rfl | rfl | rfl | rfl | rfl | rfl | rfl | rfl | rfl | rfl | rfl
    all_goals
      go_enter Tryz.func27, Tryz.ntmps27
      go_wp2_with fail
      go_ret
      exact ⟨rfl, rfl⟩
  · have E : Hid (shapeI k = []) := if_neg h
    rw [E.out]
    have d1 : (k == 1) = false := beq_eq_false_iff_ne.2 (by omega)
    have d2 : (k == 2) = false := beq_eq_false_iff_ne.2 (by omega)
    have d3 : (k == 3) = false := beq_eq_false_iff_ne.2 (by omega)
    have d4 : (k == 4) = false := beq_eq_false_iff_ne.2 (by omega)
    have d5 : (k == 5) = false := beq_eq_false_iff_ne.2 (by omega)
    have d6 : (k == 6) = false := beq_eq_false_iff_ne.2 (by omega)
    have d7 : (k == 7) = false := beq_eq_false_iff_ne.2 (by omega)
    have d8 : (k == 8) = false := beq_eq_false_iff_ne.2 (by omega)
    have d9 : (k == 9) = false := beq_eq_false_iff_ne.2 (by omega)
    have d10 : (k == 10) = false := beq_eq_false_iff_ne.2 (by omega)
    have d11 : (k == 11) = false := beq_eq_false_iff_ne.2 (by omega)
    have d12 : (k == 12) = false := beq_eq_false_iff_ne.2 (by omega)
    have d13 : (k == 13) = false := beq_eq_false_iff_ne.2 (by omega)
    have d14 : (k == 14) = false := beq_eq_false_iff_ne.2 (by omega)
    have d15 : (k == 15) = false := beq_eq_false_iff_ne.2 (by omega)
    have d16 : (k == 16) = false := beq_eq_false_iff_ne.2 (by omega)
    have d17 : (k == 17) = false := beq_eq_false_iff_ne.2 (by omega)
    have d18 : (k == 18) = false := beq_eq_false_iff_ne.2 (by omega)
    have d19 : (k == 19) = false := beq_eq_false_iff_ne.2 (by omega)
    have d20 : (k == 20) = false := beq_eq_false_iff_ne.2 (by omega)
    have d21 : (k == 21) = false := beq_eq_false_iff_ne.2 (by omega)
    clear E h
    go_enter Tryz.func27, Tryz.ntmps27
    go_wp2_with fail
    go_ret
    exact ⟨rfl, rfl⟩
end Go.Proofs.YtkjnklagjhhhkaaGreatDoor
