/-
  Ours: the program's table of fields.
-/
import Derived.Test.YtdbjjeaflfoppaaProg
import Derived.WalkKit
import Derived.WalkSpells
import Derived.WalkLawsBesides
namespace Go.Proofs.Ytdbjjeaflfoppaa
open Go.RowKit

/-- The fields that a kind uses, as a mask; none: no telling. -/
def fmask (k : Int) : Option Nat :=
  if k = 1 then some 31
  else if k = 2 then some 11
  else if k = 3 then some 1
  else if k = 4 then some 3
  else if k = 5 then some 3
  else if k = 6 then some 19
  else if k = 7 then some 13
  else if k = 8 then some 16
  else if k = 9 then some 16
  else if k = 10 then some 32
  else if k = 11 then some 0
  else if k = 12 then some 24
  else if k = 13 then some 0
  else if k = 14 then some 0
  else if k = 15 then some 1
  else if k = 16 then some 1
  else if k = 17 then some 0
  else if k = 18 then some 0
  else if k = 19 then some 0
  else if k = 20 then some 0
  else if k = 21 then some 0
  else none
def fAns (r : Option Nat) : Ending := match r with
  | some m => .returned (.tuple #[.int .i64 (m : Int), .bool true])
  | none => .returned (.tuple #[.int .i64 0, .bool false])

set_option maxRecDepth 20000 in
set_option maxHeartbeats 2000000 in
theorem fieldsOf_at (k : Int) (w : World) : Calls Try.prog 46 #[.int .i64 k] w fun e w' => e = fAns (fmask k) ∧ w' = w := by
  by_cases c1 : k = 1
  · subst c1
    go_enter Try.func46, Try.ntmps46
    go_wp2_with fail
    go_ret2
    exact ⟨rfl, rfl⟩
  by_cases c2 : k = 2
  · subst c2
    go_enter Try.func46, Try.ntmps46
    go_wp2_with fail
    go_ret2
    exact ⟨rfl, rfl⟩
  by_cases c3 : k = 3
  · subst c3
    go_enter Try.func46, Try.ntmps46
    go_wp2_with fail
    go_ret2
    exact ⟨rfl, rfl⟩
  by_cases c4 : k = 4
  · subst c4
    go_enter Try.func46, Try.ntmps46
    go_wp2_with fail
    go_ret2
    exact ⟨rfl, rfl⟩
  by_cases c5 : k = 5
  · subst c5
    go_enter Try.func46, Try.ntmps46
    go_wp2_with fail
    go_ret2
    exact ⟨rfl, rfl⟩
  by_cases c6 : k = 6
  · subst c6
    go_enter Try.func46, Try.ntmps46
    go_wp2_with fail
    go_ret2
    exact ⟨rfl, rfl⟩
  by_cases c7 : k = 7
  · subst c7
    go_enter Try.func46, Try.ntmps46
    go_wp2_with fail
    go_ret2
    exact ⟨rfl, rfl⟩
  by_cases c8 : k = 8
  · subst c8
    go_enter Try.func46, Try.ntmps46
    go_wp2_with fail
    go_ret2
    exact ⟨rfl, rfl⟩
  by_cases c9 : k = 9
  · subst c9
    go_enter Try.func46, Try.ntmps46
    go_wp2_with fail
    go_ret2
    exact ⟨rfl, rfl⟩
  by_cases c10 : k = 10
  · subst c10
    go_enter Try.func46, Try.ntmps46
    go_wp2_with fail
    go_ret2
    exact ⟨rfl, rfl⟩
  by_cases c11 : k = 11
  · subst c11
    go_enter Try.func46, Try.ntmps46
    go_wp2_with fail
    go_ret2
    exact ⟨rfl, rfl⟩
  by_cases c12 : k = 12
  · subst c12
    go_enter Try.func46, Try.ntmps46
    go_wp2_with fail
    go_ret2
    exact ⟨rfl, rfl⟩
  by_cases c13 : k = 13
  · subst c13
    go_enter Try.func46, Try.ntmps46
    go_wp2_with fail
    go_ret2
    exact ⟨rfl, rfl⟩
  by_cases c14 : k = 14
  · subst c14
    go_enter Try.func46, Try.ntmps46
    go_wp2_with fail
    go_ret2
    exact ⟨rfl, rfl⟩
  by_cases c15 : k = 15
  · subst c15
    go_enter Try.func46, Try.ntmps46
    go_wp2_with fail
    go_ret2
    exact ⟨rfl, rfl⟩
  by_cases c16 : k = 16
  · subst c16
    go_enter Try.func46, Try.ntmps46
    go_wp2_with fail
    go_ret2
    exact ⟨rfl, rfl⟩
  by_cases c17 : k = 17
  · subst c17
    go_enter Try.func46, Try.ntmps46
    go_wp2_with fail
    go_ret2
    exact ⟨rfl, rfl⟩
  by_cases c18 : k = 18
  · subst c18
    go_enter Try.func46, Try.ntmps46
    go_wp2_with fail
    go_ret2
    exact ⟨rfl, rfl⟩
  by_cases c19 : k = 19
  · subst c19
    go_enter Try.func46, Try.ntmps46
    go_wp2_with fail
    go_ret2
    exact ⟨rfl, rfl⟩
  by_cases c20 : k = 20
  · subst c20
    go_enter Try.func46, Try.ntmps46
    go_wp2_with fail
    go_ret2
    exact ⟨rfl, rfl⟩
  by_cases c21 : k = 21
  · subst c21
    go_enter Try.func46, Try.ntmps46
    go_wp2_with fail
    go_ret2
    exact ⟨rfl, rfl⟩
  have e : fmask k = none := by unfold fmask; simp only [if_neg c1, if_neg c2, if_neg c3, if_neg c4, if_neg c5, if_neg c6, if_neg c7, if_neg c8, if_neg c9, if_neg c10, if_neg c11, if_neg c12, if_neg c13, if_neg c14, if_neg c15, if_neg c16, if_neg c17, if_neg c18, if_neg c19, if_neg c20, if_neg c21]
  rw [e]
  have d1 : (k == 1) = false := by rw [beq_eq_false_iff_ne]; exact c1
  have d2 : (k == 2) = false := by rw [beq_eq_false_iff_ne]; exact c2
  have d3 : (k == 3) = false := by rw [beq_eq_false_iff_ne]; exact c3
  have d4 : (k == 4) = false := by rw [beq_eq_false_iff_ne]; exact c4
  have d5 : (k == 5) = false := by rw [beq_eq_false_iff_ne]; exact c5
  have d6 : (k == 6) = false := by rw [beq_eq_false_iff_ne]; exact c6
  have d7 : (k == 7) = false := by rw [beq_eq_false_iff_ne]; exact c7
  have d8 : (k == 8) = false := by rw [beq_eq_false_iff_ne]; exact c8
  have d9 : (k == 9) = false := by rw [beq_eq_false_iff_ne]; exact c9
  have d10 : (k == 10) = false := by rw [beq_eq_false_iff_ne]; exact c10
  have d11 : (k == 11) = false := by rw [beq_eq_false_iff_ne]; exact c11
  have d12 : (k == 12) = false := by rw [beq_eq_false_iff_ne]; exact c12
  have d13 : (k == 13) = false := by rw [beq_eq_false_iff_ne]; exact c13
  have d14 : (k == 14) = false := by rw [beq_eq_false_iff_ne]; exact c14
  have d15 : (k == 15) = false := by rw [beq_eq_false_iff_ne]; exact c15
  have d16 : (k == 16) = false := by rw [beq_eq_false_iff_ne]; exact c16
  have d17 : (k == 17) = false := by rw [beq_eq_false_iff_ne]; exact c17
  have d18 : (k == 18) = false := by rw [beq_eq_false_iff_ne]; exact c18
  have d19 : (k == 19) = false := by rw [beq_eq_false_iff_ne]; exact c19
  have d20 : (k == 20) = false := by rw [beq_eq_false_iff_ne]; exact c20
  have d21 : (k == 21) = false := by rw [beq_eq_false_iff_ne]; exact c21
  clear e c1 c2 c3 c4 c5 c6 c7 c8 c9 c10 c11 c12 c13 c14 c15 c16 c17 c18 c19 c20 c21
  go_enter Try.func46, Try.ntmps46
  go_wp2_with fail
  go_ret2
  exact ⟨rfl, rfl⟩
end Go.Proofs.Ytdbjjeaflfoppaa
