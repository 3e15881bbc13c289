/-
  Ours: MexClamp, MexSums, MexMul, MexMul2, joined.
-/
import Derived.Test.YtfdahdloihgjeacDoorAdd1
import Derived.Test.YtfdahdloihgjeacDoorRefSum
import Derived.Test.YtfdahdloihgjeacDoorCalcD
import Derived.Test.YtfdahdloihgjeacDoorRefParts
namespace Go.Proofs.YtfdahdloihgjeacDoor
open Go.RowKit

def clampV (x lo hi : Int) : Int := if x < lo then lo else if hi < x then hi else x
theorem clamp0 (x lo hi : Int) (w : World) :
    Calls Tryd.prog 34 #[.int .i64 x, .int .i64 lo, .int .i64 hi] w fun e w' => e = .returned (.int .i64 (clampV x lo hi)) ∧ w' = w := by
  unfold clampV
  by_cases h1 : x < lo
  · rw [if_pos h1]
    go_enter Tryd.func34, Tryd.ntmps34
    go_wp2_with fail
    go_ret
    exact ⟨rfl, rfl⟩
  · rw [if_neg h1]
    by_cases h2 : hi < x
    · rw [if_pos h2]
      go_enter Tryd.func34, Tryd.ntmps34
      go_wp2_with fail
      go_ret
      exact ⟨rfl, rfl⟩
    · rw [if_neg h2]
      go_enter Tryd.func34, Tryd.ntmps34
      go_wp2_with fail
      go_ret
      exact ⟨rfl, rfl⟩
theorem clamp1 (x lo hi : Int) (w : World) :
    Calls Tryd.prog 35 #[.int .i64 x, .int .i64 lo, .int .i64 hi] w fun e w' => e = .returned (.int .i64 (clampV x lo hi)) ∧ w' = w := by
  unfold clampV
  by_cases h1 : x < lo
  · rw [if_pos h1]
    go_enter Tryd.func35, Tryd.ntmps35
    go_wp2_with fail
    go_ret
    exact ⟨rfl, rfl⟩
  · rw [if_neg h1]
    by_cases h2 : hi < x
    · rw [if_pos h2]
      go_enter Tryd.func35, Tryd.ntmps35
      go_wp2_with fail
      go_ret
      exact ⟨rfl, rfl⟩
    · rw [if_neg h2]
      go_enter Tryd.func35, Tryd.ntmps35
      go_wp2_with fail
      go_ret
      exact ⟨rfl, rfl⟩
theorem clamp2 (x lo hi : Int) (w : World) :
    Calls Tryd.prog 36 #[.int .i64 x, .int .i64 lo, .int .i64 hi] w fun e w' => e = .returned (.int .i64 (clampV x lo hi)) ∧ w' = w := by
  unfold clampV
  by_cases h1 : x < lo
  · rw [if_pos h1]
    go_enter Tryd.func36, Tryd.ntmps36
    go_wp2_with fail
    go_ret
    exact ⟨rfl, rfl⟩
  · rw [if_neg h1]
    by_cases h2 : hi < x
    · rw [if_pos h2]
      go_enter Tryd.func36, Tryd.ntmps36
      go_wp2_with fail
      go_ret
      exact ⟨rfl, rfl⟩
    · rw [if_neg h2]
      go_enter Tryd.func36, Tryd.ntmps36
      go_wp2_with fail
      go_ret
      exact ⟨rfl, rfl⟩
theorem clamp3 (x lo hi : Int) (w : World) :
    Calls Tryd.prog 37 #[.int .i64 x, .int .i64 lo, .int .i64 hi] w fun e w' => e = .returned (.int .i64 (clampV x lo hi)) ∧ w' = w := by
  unfold clampV
  by_cases h1 : x < lo
  · rw [if_pos h1]
    go_enter Tryd.func37, Tryd.ntmps37
    go_wp2_with fail
    go_ret
    exact ⟨rfl, rfl⟩
  · rw [if_neg h1]
    by_cases h2 : hi < x
    · rw [if_pos h2]
      go_enter Tryd.func37, Tryd.ntmps37
      go_wp2_with fail
      go_ret
      exact ⟨rfl, rfl⟩
    · rw [if_neg h2]
      go_enter Tryd.func37, Tryd.ntmps37
      go_wp2_with fail
      go_ret
      exact ⟨rfl, rfl⟩
theorem clamp4 (x lo hi : Int) (w : World) :
    Calls Tryd.prog 38 #[.int .i64 x, .int .i64 lo, .int .i64 hi] w fun e w' => e = .returned (.int .i64 (clampV x lo hi)) ∧ w' = w := by
  unfold clampV
  by_cases h1 : x < lo
  · rw [if_pos h1]
    go_enter Tryd.func38, Tryd.ntmps38
    go_wp2_with fail
    go_ret
    exact ⟨rfl, rfl⟩
  · rw [if_neg h1]
    by_cases h2 : hi < x
    · rw [if_pos h2]
      go_enter Tryd.func38, Tryd.ntmps38
      go_wp2_with fail
      go_ret
      exact ⟨rfl, rfl⟩
    · rw [if_neg h2]
      go_enter Tryd.func38, Tryd.ntmps38
      go_wp2_with fail
      go_ret
      exact ⟨rfl, rfl⟩

set_option maxHeartbeats 2000000 in
theorem clamps_any (x lo hi : Int) (x0 : -9223372036854775808 ≤ x) (x1 : x ≤ 9223372036854775807) (l0 : -9223372036854775808 ≤ lo) (l1 : lo ≤ 9223372036854775807) (h0 : -9223372036854775808 ≤ hi) (h1 : hi ≤ 9223372036854775807) (w : World) :
    Calls Tryd.prog 12 #[.int .i64 x, .int .i64 lo, .int .i64 hi] w fun e w' => e = .returned (.bool true) ∧ w' = w := by
  have c0 : Hid (∀ w, Calls Tryd.prog 34 #[.int .i64 x, .int .i64 lo, .int .i64 hi] w fun e w' => e = .returned (.int .i64 (clampV x lo hi)) ∧ w' = w) := fun w => clamp0 x lo hi w
  have c1 : Hid (∀ w, Calls Tryd.prog 35 #[.int .i64 x, .int .i64 lo, .int .i64 hi] w fun e w' => e = .returned (.int .i64 (clampV x lo hi)) ∧ w' = w) := fun w => clamp1 x lo hi w
  have c2 : Hid (∀ w, Calls Tryd.prog 36 #[.int .i64 x, .int .i64 lo, .int .i64 hi] w fun e w' => e = .returned (.int .i64 (clampV x lo hi)) ∧ w' = w) := fun w => clamp2 x lo hi w
  have c3 : Hid (∀ w, Calls Tryd.prog 37 #[.int .i64 x, .int .i64 lo, .int .i64 hi] w fun e w' => e = .returned (.int .i64 (clampV x lo hi)) ∧ w' = w) := fun w => clamp3 x lo hi w
  have c4 : Hid (∀ w, Calls Tryd.prog 38 #[.int .i64 x, .int .i64 lo, .int .i64 hi] w fun e w' => e = .returned (.int .i64 (clampV x lo hi)) ∧ w' = w) := fun w => clamp4 x lo hi w
  have v0 : -9223372036854775808 ≤ clampV x lo hi := by unfold clampV; repeat (first | omega | split)
  have v1 : clampV x lo hi ≤ 9223372036854775807 := by unfold clampV; repeat (first | omega | split)
  generalize clampV x lo hi = V at *
  have e1 : (V != V) = false := by simp
  have e3 : (V == V) = true := by simp
  go_enter Tryd.func12, Tryd.ntmps12
  go_wp2_with fail
  refine (c0.out _).mono ?_
  rintro e w1 ⟨rfl, hw⟩; rw [hw]; clear hw w1
  go_wp2_with fail
  refine (c1.out _).mono ?_
  rintro e w1 ⟨rfl, hw⟩; rw [hw]; clear hw w1
  go_wp2_with fail
  refine (c2.out _).mono ?_
  rintro e w1 ⟨rfl, hw⟩; rw [hw]; clear hw w1
  go_wp2_with fail
  refine (c3.out _).mono ?_
  rintro e w1 ⟨rfl, hw⟩; rw [hw]; clear hw w1
  go_wp2_with fail
  refine (c4.out _).mono ?_
  rintro e w1 ⟨rfl, hw⟩; rw [hw]; clear hw w1
  go_wp2_with fail
  go_ret
  exact ⟨rfl, rfl⟩
end Go.Proofs.YtfdahdloihgjeacDoor

namespace Go.Proofs.YtfdahdloihgjeacDoor
open Go.RowKit

/-- money.Sub: the exact difference of two, if it fits. -/
theorem sub_any (a b : Int) (a0 : -9223372036854775808 ≤ a) (a1 : a ≤ 9223372036854775807) (b0 : -9223372036854775808 ≤ b) (b1 : b ≤ 9223372036854775807) (w : World) :
    Calls Tryd.prog 20 #[.int .i64 a, .int .i64 b] w fun e w' => e = .returned (.tuple #[.int .i64 (smV (a - b)), .bool (smOk (a - b))]) ∧ w' = w := by
  by_cases hs : -9223372036854775808 ≤ a - b ∧ a - b ≤ 9223372036854775807
  · have e1 : smOk (a - b) = true := decide_eq_true hs
    have e2 : smV (a - b) = a - b := by simp [smV, e1]
    rw [e1, e2]
    clear e1 e2
    obtain ⟨h0, h1⟩ := hs
    by_cases hb : b < 0
    · have d1 : decide (a < a - b) = true := decide_eq_true (by omega)
      have d2 : decide (b < 0) = true := decide_eq_true hb
      go_enter Tryd.func20, Tryd.ntmps20
      go_wp2
      go_ret2
      exact ⟨rfl, rfl⟩
    · have d1 : decide (a < a - b) = false := decide_eq_false (by omega)
      have d2 : decide (b < 0) = false := decide_eq_false hb
      go_enter Tryd.func20, Tryd.ntmps20
      go_wp2
      go_ret2
      exact ⟨rfl, rfl⟩
  · have e1 : smOk (a - b) = false := decide_eq_false hs
    have e2 : smV (a - b) = 0 := by simp [smV, e1]
    rw [e1, e2]
    clear e1 e2
    by_cases hb : b < 0
    · have ew : wrap64 (a - b) = a - b - 18446744073709551616 := by unfold wrap64; omega
      have d : decide (a < wrap64 (a - b)) = false := by rw [ew]; simp; omega
      have d2 : decide (b < 0) = true := decide_eq_true hb
      clear hs ew
      go_enter Tryd.func20, Tryd.ntmps20
      go_wp2
      go_ret2
      exact ⟨rfl, rfl⟩
    · have ew : wrap64 (a - b) = a - b + 18446744073709551616 := by unfold wrap64; omega
      have d : decide (a < wrap64 (a - b)) = true := by rw [ew]; simp; omega
      have d2 : decide (b < 0) = false := decide_eq_false hb
      clear hs ew
      go_enter Tryd.func20, Tryd.ntmps20
      go_wp2
      go_ret2
      exact ⟨rfl, rfl⟩

theorem radd_any (a b : Int) (a0 : -9223372036854775808 ≤ a) (a1 : a ≤ 9223372036854775807) (b0 : -9223372036854775808 ≤ b) (b1 : b ≤ 9223372036854775807) (w : World) :
    Calls Tryd.prog 19 #[.int .i64 a, .int .i64 b] w fun e w' => e = .returned (.tuple #[.int .i64 (smV (a + b)), .bool (smOk (a + b))]) ∧ w' = w := by
  have HA : Hid (∀ w, Calls Tryd.prog 47 #[.int .i64 a] w fun e w' => e = .returned (.int .i64 (a / 4294967296)) ∧ w' = w) := fun w => high_any a w
  have HB : Hid (∀ w, Calls Tryd.prog 47 #[.int .i64 b] w fun e w' => e = .returned (.int .i64 (b / 4294967296)) ∧ w' = w) := fun w => high_any b w
  have LA : Hid (∀ w, Calls Tryd.prog 48 #[.int .i64 a] w fun e w' => e = .returned (.int .i64 (a % 4294967296)) ∧ w' = w) := fun w => lowOf_any a a0 a1 w
  have LB : Hid (∀ w, Calls Tryd.prog 48 #[.int .i64 b] w fun e w' => e = .returned (.int .i64 (b % 4294967296)) ∧ w' = w) := fun w => lowOf_any b b0 b1 w
  have JN : Hid (∀ w, Calls Tryd.prog 46 #[.int .i64 (a / 4294967296 + b / 4294967296), .int .i64 (a % 4294967296 + b % 4294967296)] w fun e w' => e = .returned (.tuple #[.int .i64 (smV (a + b)), .bool (smOk (a + b))]) ∧ w' = w) := fun w => by
    have := joined_any (a / 4294967296 + b / 4294967296) (a % 4294967296 + b % 4294967296) (by omega) (by omega) (by omega) (by omega) w
    rw [show (a / 4294967296 + b / 4294967296) * 4294967296 + (a % 4294967296 + b % 4294967296) = a + b by omega] at this
    exact this
  have q0 : -2147483648 ≤ a / 4294967296 := by omega
  have q1 : a / 4294967296 ≤ 2147483647 := by omega
  have q2 : -2147483648 ≤ b / 4294967296 := by omega
  have q3 : b / 4294967296 ≤ 2147483647 := by omega
  have q4 : 0 ≤ a % 4294967296 := by omega
  have q5 : a % 4294967296 ≤ 4294967295 := by omega
  have q6 : 0 ≤ b % 4294967296 := by omega
  have q7 : b % 4294967296 ≤ 4294967295 := by omega
  generalize smV (a + b) = V at *
  generalize smOk (a + b) = K at *
  generalize a / 4294967296 = ha at *
  generalize b / 4294967296 = hb at *
  generalize a % 4294967296 = la at *
  generalize b % 4294967296 = lb at *
  go_enter Tryd.func19, Tryd.ntmps19
  go_wp2_with fail
  refine (HA.out _).mono ?_
  rintro e w1 ⟨rfl, hw⟩; rw [hw]; clear hw w1
  go_wp2_with fail
  refine (HB.out _).mono ?_
  rintro e w1 ⟨rfl, hw⟩; rw [hw]; clear hw w1
  go_wp2_with fail
  refine (LA.out _).mono ?_
  rintro e w1 ⟨rfl, hw⟩; rw [hw]; clear hw w1
  go_wp2_with fail
  refine (LB.out _).mono ?_
  rintro e w1 ⟨rfl, hw⟩; rw [hw]; clear hw w1
  go_wp2_with fail
  refine (JN.out _).mono ?_
  rintro e w1 ⟨rfl, hw⟩; rw [hw]; clear hw w1
  go_wp2_with fail
  go_ret2
  exact ⟨rfl, rfl⟩
theorem rsub_any (a b : Int) (a0 : -9223372036854775808 ≤ a) (a1 : a ≤ 9223372036854775807) (b0 : -9223372036854775808 ≤ b) (b1 : b ≤ 9223372036854775807) (w : World) :
    Calls Tryd.prog 21 #[.int .i64 a, .int .i64 b] w fun e w' => e = .returned (.tuple #[.int .i64 (smV (a - b)), .bool (smOk (a - b))]) ∧ w' = w := by
  have HA : Hid (∀ w, Calls Tryd.prog 47 #[.int .i64 a] w fun e w' => e = .returned (.int .i64 (a / 4294967296)) ∧ w' = w) := fun w => high_any a w
  have HB : Hid (∀ w, Calls Tryd.prog 47 #[.int .i64 b] w fun e w' => e = .returned (.int .i64 (b / 4294967296)) ∧ w' = w) := fun w => high_any b w
  have LA : Hid (∀ w, Calls Tryd.prog 48 #[.int .i64 a] w fun e w' => e = .returned (.int .i64 (a % 4294967296)) ∧ w' = w) := fun w => lowOf_any a a0 a1 w
  have LB : Hid (∀ w, Calls Tryd.prog 48 #[.int .i64 b] w fun e w' => e = .returned (.int .i64 (b % 4294967296)) ∧ w' = w) := fun w => lowOf_any b b0 b1 w
  have JN : Hid (∀ w, Calls Tryd.prog 46 #[.int .i64 (a / 4294967296 - b / 4294967296), .int .i64 (a % 4294967296 - b % 4294967296)] w fun e w' => e = .returned (.tuple #[.int .i64 (smV (a - b)), .bool (smOk (a - b))]) ∧ w' = w) := fun w => by
    have := joined_any (a / 4294967296 - b / 4294967296) (a % 4294967296 - b % 4294967296) (by omega) (by omega) (by omega) (by omega) w
    rw [show (a / 4294967296 - b / 4294967296) * 4294967296 + (a % 4294967296 - b % 4294967296) = a - b by omega] at this
    exact this
  have q0 : -2147483648 ≤ a / 4294967296 := by omega
  have q1 : a / 4294967296 ≤ 2147483647 := by omega
  have q2 : -2147483648 ≤ b / 4294967296 := by omega
  have q3 : b / 4294967296 ≤ 2147483647 := by omega
  have q4 : 0 ≤ a % 4294967296 := by omega
  have q5 : a % 4294967296 ≤ 4294967295 := by omega
  have q6 : 0 ≤ b % 4294967296 := by omega
  have q7 : b % 4294967296 ≤ 4294967295 := by omega
  generalize smV (a - b) = V at *
  generalize smOk (a - b) = K at *
  generalize a / 4294967296 = ha at *
  generalize b / 4294967296 = hb at *
  generalize a % 4294967296 = la at *
  generalize b % 4294967296 = lb at *
  go_enter Tryd.func21, Tryd.ntmps21
  go_wp2_with fail
  refine (HA.out _).mono ?_
  rintro e w1 ⟨rfl, hw⟩; rw [hw]; clear hw w1
  go_wp2_with fail
  refine (HB.out _).mono ?_
  rintro e w1 ⟨rfl, hw⟩; rw [hw]; clear hw w1
  go_wp2_with fail
  refine (LA.out _).mono ?_
  rintro e w1 ⟨rfl, hw⟩; rw [hw]; clear hw w1
  go_wp2_with fail
  refine (LB.out _).mono ?_
  rintro e w1 ⟨rfl, hw⟩; rw [hw]; clear hw w1
  go_wp2_with fail
  refine (JN.out _).mono ?_
  rintro e w1 ⟨rfl, hw⟩; rw [hw]; clear hw w1
  go_wp2_with fail
  go_ret2
  exact ⟨rfl, rfl⟩
end Go.Proofs.YtfdahdloihgjeacDoor

namespace Go.Proofs.YtfdahdloihgjeacDoor
open Go.RowKit

theorem sg_big (neg : Bool) (m : Nat) (h : 18446744073709551616 ≤ m) : sgOk neg m = false ∧ sgV neg m = 0 := by
  have : sgOk neg m = false := by unfold sgOk; split <;> exact decide_eq_false (by omega)
  exact ⟨this, by simp [sgV, this]⟩

set_option maxHeartbeats 2000000 in
theorem mul_any (a b : Int) (a0 : -9223372036854775808 ≤ a) (a1 : a ≤ 9223372036854775807) (b0 : -9223372036854775808 ≤ b) (b1 : b ≤ 9223372036854775807) (w : World) :
    Calls Tryd.prog 22 #[.int .i64 a, .int .i64 b] w fun e w' => e = .returned (.tuple #[.int .i64 (sgV (Signs.neg2 a b) (a.natAbs * b.natAbs)), .bool (sgOk (Signs.neg2 a b) (a.natAbs * b.natAbs))]) ∧ w' = w := by
  have SA : Hid (∀ w, Calls Tryd.prog 50 #[.int .i64 a] w fun e w' => e = .returned (.int .u64 (a.natAbs : Int)) ∧ w' = w) := fun w => size_any a a0 a1 w
  have SB : Hid (∀ w, Calls Tryd.prog 50 #[.int .i64 b] w fun e w' => e = .returned (.int .u64 (b.natAbs : Int)) ∧ w' = w) := fun w => size_any b b0 b1 w
  have MM : Hid (∀ w, Calls Tryd.prog 49 #[.int .u64 (a.natAbs : Int), .int .u64 (b.natAbs : Int)] w fun e w' => e = .returned (.tuple #[.int .u64 ((a.natAbs * b.natAbs / 18446744073709551616 : Nat) : Int), .int .u64 ((a.natAbs * b.natAbs % 18446744073709551616 : Nat) : Int)]) ∧ w' = w) := fun w => Tryd.bits_Mul64 a.natAbs b.natAbs (by omega) (by omega) w
  have NG : Hid (Signs.neg2 a b = (decide (a < 0) != decide (b < 0))) := rfl
  have SG : Hid (∀ (m : Int) w, 0 ≤ m → m < 18446744073709551616 → ∀ n, n = Signs.neg2 a b → Calls Tryd.prog 51 #[.int .u64 m, .bool n] w fun e w' => e = .returned (.tuple #[.int .i64 (sgV (Signs.neg2 a b) m.toNat), .bool (sgOk (Signs.neg2 a b) m.toNat)]) ∧ w' = w) := fun m w h0 h1 n hn => by subst hn; exact signed_any m _ h0 h1 w
  have BG : Hid (18446744073709551616 ≤ a.natAbs * b.natAbs → sgOk (Signs.neg2 a b) (a.natAbs * b.natAbs) = false ∧ sgV (Signs.neg2 a b) (a.natAbs * b.natAbs) = 0) := sg_big _ _
  generalize Signs.neg2 a b = N at *
  generalize a.natAbs * b.natAbs = P at *
  generalize (a.natAbs : Int) = A at *
  generalize (b.natAbs : Int) = B at *
  obtain ⟨H, hH⟩ : ∃ H : Nat, P / 18446744073709551616 = H := ⟨_, rfl⟩
  obtain ⟨L, hL⟩ : ∃ L : Nat, P % 18446744073709551616 = L := ⟨_, rfl⟩
  rw [hH, hL] at MM
  have L0 : (0 : Int) ≤ (L : Int) := by omega
  have L1 : (L : Int) < 18446744073709551616 := by omega
  by_cases hz : H = 0
  · have hP : Hid (P = L) := (by omega : P = L)
    subst hz
    clear hH hL
    go_enter Tryd.func22, Tryd.ntmps22
    go_wp2_with fail
    refine (SA.out _).mono ?_
    rintro e w1 ⟨rfl, hw⟩; rw [hw]; clear hw w1
    go_wp2_with fail
    refine (SB.out _).mono ?_
    rintro e w1 ⟨rfl, hw⟩; rw [hw]; clear hw w1
    go_wp2_with fail
    refine (MM.out _).mono ?_
    rintro e w1 ⟨rfl, hw⟩; rw [hw]; clear hw w1
    go_wp2_with fail
    refine (SG.out _ _ L0 L1 _ NG.out.symm).mono ?_
    rintro e w1 ⟨rfl, hw⟩; rw [hw]; clear hw w1
    rw [Int.toNat_natCast]
    go_wp2_with fail
    go_ret2
    rw [hP.out]
    exact ⟨rfl, rfl⟩
  · obtain ⟨e1, e2⟩ := BG.out (by omega)
    rw [e1, e2]
    have z1 : ((H : Int) != 0) = true := by simp; omega
    have z2 : ¬ (H : Int) = 0 := by omega
    clear e1 e2 hH hL BG hz
    go_enter Tryd.func22, Tryd.ntmps22
    go_wp2_with fail
    refine (SA.out _).mono ?_
    rintro e w1 ⟨rfl, hw⟩; rw [hw]; clear hw w1
    go_wp2_with fail
    refine (SB.out _).mono ?_
    rintro e w1 ⟨rfl, hw⟩; rw [hw]; clear hw w1
    go_wp2_with fail
    refine (MM.out _).mono ?_
    rintro e w1 ⟨rfl, hw⟩; rw [hw]; clear hw w1
    go_wp2_with fail
    go_ret2
    exact ⟨rfl, rfl⟩
end Go.Proofs.YtfdahdloihgjeacDoor

namespace Go.Proofs.YtfdahdloihgjeacDoor
open Go.RowKit

set_option maxHeartbeats 2000000 in
theorem rmul_any (a b : Int) (a0 : -9223372036854775808 ≤ a) (a1 : a ≤ 9223372036854775807) (b0 : -9223372036854775808 ≤ b) (b1 : b ≤ 9223372036854775807) (w : World) :
    Calls Tryd.prog 23 #[.int .i64 a, .int .i64 b] w fun e w' => e = .returned (.tuple #[.int .i64 (sgV (Signs.neg2 a b) (a.natAbs * b.natAbs)), .bool (sgOk (Signs.neg2 a b) (a.natAbs * b.natAbs))]) ∧ Below w.heap.size w w' := by
  obtain ⟨A, hA⟩ : ∃ A, a.natAbs = A := ⟨_, rfl⟩
  obtain ⟨B, hB⟩ : ∃ B, b.natAbs = B := ⟨_, rfl⟩
  have A1 : A ≤ 9223372036854775808 := by omega
  have B1 : B ≤ 9223372036854775808 := by omega
  have sa := fun w => rsize_any a a0 a1 w
  have sb := fun w => rsize_any b b0 b1 w
  rw [hA] at sa
  rw [hB] at sb
  rw [hA, hB]
  have SA : Hid (∀ w, Calls Tryd.prog 54 #[.int .i64 a] w fun e w' => e = .returned (.int .u64 (A : Int)) ∧ w' = w) := sa
  have SB : Hid (∀ w, Calls Tryd.prog 54 #[.int .i64 b] w fun e w' => e = .returned (.int .u64 (B : Int)) ∧ w' = w) := sb
  have NG : Hid (Signs.neg2 a b = (decide (a < 0) != decide (b < 0))) := rfl
  clear sa sb hA hB
  obtain ⟨P, hP⟩ : ∃ P, A * B = P := ⟨_, rfl⟩
  rw [hP]
  have HP : Hid (A * B = P) := hP
  generalize Signs.neg2 a b = N at *
  have FIN : Hid (∀ (v : Value) (S : List Int) w B', B' = N → Row 3 0 w v S → S.length = 128 → Upto 1 S → val S = ((P : Nat) : Int) → Calls Tryd.prog 55 #[.bool B', v] w fun e w' => e = .returned (.tuple #[.int .i64 (sgV N P), .bool (sgOk N P)]) ∧ w' = w) := by
    intro v S w B' hB' h1 h2 h3 h4
    subst hB'
    exact signedBy_any _ P v S w h1 h2 h3 h4
  clear hP
  generalize sgV N P = V at *
  generalize sgOk N P = K at *
  go_enter Tryd.func23, Tryd.ntmps23
  go_wp2_with fail
  refine (SA.out _).mono ?_
  rintro e w1 ⟨rfl, hw⟩; rw [hw]; clear hw w1
  go_wp2_with fail
  refine (digits_any A (by omega) _).mono ?_
  rintro e w1 ⟨va, rfl, ra, b1⟩
  go_wp2_with fail
  refine (SB.out _).mono ?_
  rintro e w2 ⟨rfl, hw⟩; rw [hw]; clear hw w2
  go_wp2_with fail
  refine (digits_any B (by omega) _).mono ?_
  rintro e w2 ⟨vb, rfl, rb, b2⟩
  have ra2 := (ra.later b2).mono (Nat.zero_le _)
  have rb2 := rb.mono (Nat.zero_le _)
  have bb2 := below2 b1 b2
  clear ra rb b1 b2
  go_wp2_with fail
  refine (product_any A B (by omega) (by omega) va vb _ ra2 rb2).mono ?_
  rintro e w3 ⟨vs, rfl, S3, r3, l3, u3, v3, b3⟩
  have bb3 := below2 bb2 b3
  have r3' := r3.mono (Nat.zero_le _)
  clear ra2 rb2 bb2 b3 r3
  rw [HP.out] at v3
  go_wp2_with fail
  refine (FIN.out vs S3 _ _ NG.out.symm r3' l3 u3 v3).mono ?_
  rintro e w6 ⟨rfl, hw⟩; rw [hw]; clear hw w6
  go_wp2_with fail
  go_ret2
  exact ⟨rfl, bb3⟩

set_option maxHeartbeats 2000000 in
theorem sums_any (a b : Int) (a0 : -9223372036854775808 ≤ a) (a1 : a ≤ 9223372036854775807) (b0 : -9223372036854775808 ≤ b) (b1 : b ≤ 9223372036854775807) (w : World) :
    Calls Tryd.prog 7 #[.int .i64 a, .int .i64 b] w fun e w' => e = .returned (.bool true) ∧ Below w.heap.size w w' := by
  have c0 : Hid (∀ w, Calls Tryd.prog 4 #[.int .i64 a, .int .i64 b] w fun e w' => e = .returned (.tuple #[.int .i64 (smV (a + b)), .bool (smOk (a + b))]) ∧ w' = w) := fun w => add_any a b a0 a1 b0 b1 w
  have c1 : Hid (∀ w, Calls Tryd.prog 19 #[.int .i64 a, .int .i64 b] w fun e w' => e = .returned (.tuple #[.int .i64 (smV (a + b)), .bool (smOk (a + b))]) ∧ w' = w) := fun w => radd_any a b a0 a1 b0 b1 w
  have c2 : Hid (∀ w, Calls Tryd.prog 20 #[.int .i64 a, .int .i64 b] w fun e w' => e = .returned (.tuple #[.int .i64 (smV (a - b)), .bool (smOk (a - b))]) ∧ w' = w) := fun w => sub_any a b a0 a1 b0 b1 w
  have c3 : Hid (∀ w, Calls Tryd.prog 21 #[.int .i64 a, .int .i64 b] w fun e w' => e = .returned (.tuple #[.int .i64 (smV (a - b)), .bool (smOk (a - b))]) ∧ w' = w) := fun w => rsub_any a b a0 a1 b0 b1 w
  have c4 : Hid (∀ w, Calls Tryd.prog 22 #[.int .i64 a, .int .i64 b] w fun e w' => e = .returned (.tuple #[.int .i64 (sgV (Signs.neg2 a b) (a.natAbs * b.natAbs)), .bool (sgOk (Signs.neg2 a b) (a.natAbs * b.natAbs))]) ∧ w' = w) := fun w => mul_any a b a0 a1 b0 b1 w
  have c5 : Hid (∀ w, Calls Tryd.prog 23 #[.int .i64 a, .int .i64 b] w fun e w' => e = .returned (.tuple #[.int .i64 (sgV (Signs.neg2 a b) (a.natAbs * b.natAbs)), .bool (sgOk (Signs.neg2 a b) (a.natAbs * b.natAbs))]) ∧ Below w.heap.size w w') := fun w => rmul_any a b a0 a1 b0 b1 w
  generalize smV (a + b) = V1 at *
  generalize smOk (a + b) = K1 at *
  generalize smV (a - b) = V2 at *
  generalize smOk (a - b) = K2 at *
  generalize sgV (Signs.neg2 a b) (a.natAbs * b.natAbs) = V3 at *
  generalize sgOk (Signs.neg2 a b) (a.natAbs * b.natAbs) = K3 at *
  have e1 : (V1 != V1) = false := by simp
  have e2 : (K1 != K1) = false := by simp
  have e3 : (V2 != V2) = false := by simp
  have e4 : (K2 != K2) = false := by simp
  have e5 : (V3 == V3) = true := by simp
  have e6 : (K3 == K3) = true := by simp
  go_enter Tryd.func7, Tryd.ntmps7
  go_wp2_with fail
  refine (c0.out _).mono ?_
  rintro e w1 ⟨rfl, hw⟩; rw [hw]; clear hw w1
  go_wp2_with fail
  refine (c1.out _).mono ?_
  rintro e w1 ⟨rfl, hw⟩; rw [hw]; clear hw w1
  go_wp2_with fail
  refine (c2.out _).mono ?_
  rintro e w1 ⟨rfl, hw⟩; rw [hw]; clear hw w1
  go_wp2_with fail
  refine (c3.out _).mono ?_
  rintro e w1 ⟨rfl, hw⟩; rw [hw]; clear hw w1
  go_wp2_with fail
  refine (c4.out _).mono ?_
  rintro e w1 ⟨rfl, hw⟩; rw [hw]; clear hw w1
  go_wp2_with fail
  refine (c5.out _).mono ?_
  rintro e w1 ⟨rfl, U⟩
  go_wp2_with fail
  go_ret
  exact ⟨rfl, U⟩
end Go.Proofs.YtfdahdloihgjeacDoor
