/-
  Ours: the contract of interest.Month; the walk of InterestNearest.
-/
import Derived.Test.YtkabfdajpilomabDoorIntMath
import Derived.Test.YtkabfdajpilomabDoorIntRate
import Derived.Test.YtkabfdajpilomabDoorNear
namespace Go.Proofs.YtkabfdajpilomabDoor
open Go.RowKit IntM

theorem md_mon {b r : Int} (b0 : 0 ≤ b) (b1 : b ≤ 9223372036854775807) (r0 : 0 ≤ r) (r1 : r ≤ 100000) : mdOk b r 120000 = true ∧ mdV b r 120000 = mon b r := by
  obtain ⟨B, rfl⟩ := Int.eq_ofNat_of_zero_le b0
  obtain ⟨R, rfl⟩ := Int.eq_ofNat_of_zero_le r0
  have hm := mon_le (r := (R : Int)) (by omega : (0 : Int) ≤ (B : Int)) r1
  have e : ((rnd (B * R) 120000 : Nat) : Int) = mon B R := by
    unfold rnd upB mon rd
    rw [← Int.natCast_mul]
    generalize B * R = P
    by_cases h : 120000 - P % 120000 < P % 120000 ∨ P % 120000 = 120000 - P % 120000 ∧ P / 120000 % 2 = 1
    · rw [decide_eq_true h, if_pos rfl, if_pos (by omega)]; omega
    · rw [decide_eq_false h, if_neg (by decide), if_neg (by omega)]; omega
  have n3 : neg3 (B : Int) (R : Int) 120000 = false := by
    unfold neg3 Signs.neg2
    rw [decide_eq_false (by omega : ¬ (B : Int) < 0), decide_eq_false (by omega : ¬ (R : Int) < 0)]; rfl
  have k : mdOk (B : Int) (R : Int) 120000 = true := by
    unfold mdOk
    rw [n3]
    simp only [Int.natAbs_natCast]
    show (decide (0 < 120000) && sgOk false (rnd (B * R) 120000)) = true
    have : sgOk false (rnd (B * R) 120000) = true := by unfold sgOk; simp; omega
    rw [this]; rfl
  refine ⟨k, ?_⟩
  have k2 := k
  unfold mdOk at k2
  rw [n3] at k2
  simp only [Int.natAbs_natCast, Bool.and_eq_true] at k2
  unfold mdV
  rw [k, if_pos rfl, n3]
  unfold sgV
  simp only [Int.natAbs_natCast]
  rw [if_pos k2.2]
  simpa using e

theorem month_at (b r : Int) (b0 : 0 ≤ b) (b1 : b ≤ 9223372036854775807) (r0 : 0 ≤ r) (r1 : r ≤ 100000) (w : World) :
    Calls Tryd.prog 13 #[.int .i64 b, .int .i64 r] w fun e w' => e = .returned (.tuple #[.int .i64 (mon b r), .bool true]) ∧ ∃ n, w' = w.drewN n := by
  have IR : Hid (∀ w, Calls Tryd.prog 22 #[.int .i64 r] w fun e w' => e = .returned (.bool true) ∧ w' = w) := fun w => isRate_at r true (decide_eq_true ⟨r0, r1⟩) w
  obtain ⟨k1, k2⟩ := md_mon b0 b1 r0 r1
  have N := fun w => near_any b r 120000 (by omega) b1 (by omega) (by omega) (by omega) (by omega) w
  rw [k1, k2] at N
  generalize mon b r = m at *
  have NN : Hid (∀ w, Calls Tryd.prog 30 #[.int .i64 b, .int .i64 r, .int .i64 120000] w fun e w' => e = .returned (.tuple #[.int .i64 m, .bool true]) ∧ ∃ n, w' = w.drewN n) := N
  clear N k1 k2
  go_enter Tryd.func13, Tryd.ntmps13
  go_wp2_with fail
  refine (IR.out _).mono ?_
  rintro e w1 ⟨rfl, hw⟩; rw [hw]; clear hw w1
  go_wp2_with fail
  refine (NN.out _).mono ?_
  rintro e w1 ⟨rfl, n, hw⟩; rw [hw]; clear hw w1
  go_wp2_with fail
  go_ret2
  exact ⟨rfl, _, rfl⟩

theorem month_no (b r : Int) (h : ¬ (0 ≤ b ∧ 0 ≤ r ∧ r ≤ 100000)) (w : World) :
    Calls Tryd.prog 13 #[.int .i64 b, .int .i64 r] w fun e w' => e = .returned (.tuple #[.int .i64 0, .bool false]) ∧ w' = w := by
  by_cases hb : 0 ≤ b
  · have IR : Hid (∀ w, Calls Tryd.prog 22 #[.int .i64 r] w fun e w' => e = .returned (.bool false) ∧ w' = w) := fun w => isRate_at r false (decide_eq_false (by omega)) w
    clear h
    go_enter Tryd.func13, Tryd.ntmps13
    go_wp2_with fail
    refine (IR.out _).mono ?_
    rintro e w1 ⟨rfl, hw⟩; rw [hw]; clear hw w1
    go_wp2_with fail
    go_ret2
    exact ⟨rfl, rfl⟩
  · clear h
    go_enter Tryd.func13, Tryd.ntmps13
    go_wp2_with fail
    go_ret2
    exact ⟨rfl, rfl⟩
end Go.Proofs.YtkabfdajpilomabDoor
