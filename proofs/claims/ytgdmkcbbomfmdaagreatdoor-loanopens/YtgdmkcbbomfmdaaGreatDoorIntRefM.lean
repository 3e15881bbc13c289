/-
  Ours: the reference's isRate and month.
-/
import Derived.Test.YtgdmkcbbomfmdaaGreatDoorCalcD
import Derived.Test.YtgdmkcbbomfmdaaGreatDoorIntPlanM
import Derived.Test.YtgdmkcbbomfmdaaGreatDoorDiv64
namespace Go.Proofs.YtgdmkcbbomfmdaaGreatDoor
open Go.RowKit

/-- Is the rounding upward? (The rest beyond the half, or just the half and the quotient odd.) -/
def upB (P C : Nat) : Bool := decide (C - P % C < P % C ∨ (P % C = C - P % C ∧ P / C % 2 = 1))
/-- The sizes' fraction to the nearest whole number, a half to the even one. -/
def rnd (P C : Nat) : Nat := if upB P C then P / C + 1 else P / C
def neg3 (a b c : Int) : Bool := Signs.neg2 a b != decide (c < 0)
def mdOk (a b c : Int) : Bool := decide (0 < c.natAbs) && sgOk (neg3 a b c) (rnd (a.natAbs * b.natAbs) c.natAbs)
def mdV (a b c : Int) : Int := if mdOk a b c then sgV (neg3 a b c) (rnd (a.natAbs * b.natAbs) c.natAbs) else 0

theorem md_no {a b c : Int} (h : dvOk (a.natAbs * b.natAbs) c.natAbs = false) : mdOk a b c = false := by
  unfold mdOk
  by_cases hc : 0 < c.natAbs
  · have hq : 9223372036854775808 < a.natAbs * b.natAbs / c.natAbs := by
      simp only [dvOk, decide_eq_false_iff_not] at h
      omega
    have hr : 9223372036854775808 < rnd (a.natAbs * b.natAbs) c.natAbs := by unfold rnd; split <;> omega
    simp only [hc, decide_true, Bool.true_and]
    generalize rnd (a.natAbs * b.natAbs) c.natAbs = z at *
    unfold sgOk
    split <;> simp <;> omega
  · simp [hc]
theorem md_yes {a b c : Int} (h : dvOk (a.natAbs * b.natAbs) c.natAbs = true) :
    mdOk a b c = sgOk (neg3 a b c) (rnd (a.natAbs * b.natAbs) c.natAbs) ∧ mdV a b c = sgV (neg3 a b c) (rnd (a.natAbs * b.natAbs) c.natAbs) := by
  have hc : 0 < c.natAbs := by simp only [dvOk, decide_eq_true_iff] at h; exact h.1
  have e : mdOk a b c = sgOk (neg3 a b c) (rnd (a.natAbs * b.natAbs) c.natAbs) := by simp [mdOk, hc]
  refine ⟨e, ?_⟩
  unfold mdV sgV
  rw [e]
  split
  · rfl
  · rfl

set_option maxHeartbeats 1000000 in
theorem near_any (a b c : Int) (a0 : -9223372036854775808 ≤ a) (a1 : a ≤ 9223372036854775807) (b0 : -9223372036854775808 ≤ b) (b1 : b ≤ 9223372036854775807) (c0 : -9223372036854775808 ≤ c) (c1 : c ≤ 9223372036854775807) (w : World) :
    Calls Tryz.prog 110 #[.int .i64 a, .int .i64 b, .int .i64 c] w fun e w' =>
      e = .returned (.tuple #[.int .i64 (mdV a b c), .bool (mdOk a b c)]) ∧ ∃ n, w' = w.drewN n := by
  have D := fun w => divide_any a b c a0 a1 b0 b1 c0 c1 w
  obtain ⟨Q, hQ⟩ : ∃ Q, dvQ (a.natAbs * b.natAbs) c.natAbs = Q := ⟨_, rfl⟩
  obtain ⟨R, hR⟩ : ∃ R, dvR (a.natAbs * b.natAbs) c.natAbs = R := ⟨_, rfl⟩
  cases hk : dvOk (a.natAbs * b.natAbs) c.natAbs
  · have e1 : mdOk a b c = false := md_no hk
    have e2 : mdV a b c = 0 := by simp [mdV, e1]
    rw [hk, hQ, hR] at D
    rw [e1, e2]
    have DD : Hid (∀ w, Calls Tryz.prog 126 #[.int .i64 a, .int .i64 b, .int .i64 c] w fun e w' => e = .returned (.tuple #[.int .u64 (Q : Int), .int .u64 (R : Int), .bool false]) ∧ ∃ n, w' = w.drewN n) := D
    clear e1 e2 D hk hQ hR
    go_enter Tryz.func110, Tryz.ntmps110
    go_wp2_with fail
    refine (DD.out _).mono ?_
    rintro e w1 ⟨rfl, n, hw⟩; rw [hw]; clear hw w1
    go_wp2_with fail
    go_ret2
    exact ⟨rfl, _, rfl⟩
  · obtain ⟨k1, k2⟩ := md_yes hk
    have hq : a.natAbs * b.natAbs / c.natAbs = Q := by rw [← hQ, dvQ, hk, if_pos rfl]
    have hr : a.natAbs * b.natAbs % c.natAbs = R := by rw [← hR, dvR, hk, if_pos rfl]
    have Q1 : Q ≤ 9223372036854775808 := by
      have h := hk
      simp only [dvOk, decide_eq_true_iff] at h
      rw [← hq]; exact h.2
    have R1 : R < c.natAbs := by
      rw [← hr]
      refine Nat.mod_lt _ ?_
      have h := hk
      simp only [dvOk, decide_eq_true_iff] at h
      exact h.1
    rw [hk, hQ, hR] at D
    have hrn : rnd (a.natAbs * b.natAbs) c.natAbs = if decide (c.natAbs - R < R ∨ (R = c.natAbs - R ∧ Q % 2 = 1)) then Q + 1 else Q := by
      unfold rnd upB; rw [hq, hr]
    rw [hrn] at k1 k2
    rw [k1, k2]
    have sc := fun w => size_any c c0 c1 w
    obtain ⟨C, hC⟩ : ∃ C, c.natAbs = C := ⟨_, rfl⟩
    rw [hC] at R1 sc ⊢
    have C1 : C ≤ 9223372036854775808 := by omega
    have DD : Hid (∀ w, Calls Tryz.prog 126 #[.int .i64 a, .int .i64 b, .int .i64 c] w fun e w' => e = .returned (.tuple #[.int .u64 (Q : Int), .int .u64 (R : Int), .bool true]) ∧ ∃ n, w' = w.drewN n) := D
    have SC : Hid (∀ w, Calls Tryz.prog 127 #[.int .i64 c] w fun e w' => e = .returned (.int .u64 (C : Int)) ∧ w' = w) := sc
    have SS : Hid (∀ w (m : Int) B, B = neg3 a b c → 0 ≤ m → m < 18446744073709551616 → Calls Tryz.prog 128 #[.int .u64 m, .bool B] w fun e w' => e = .returned (.tuple #[.int .i64 (sgV (neg3 a b c) m.toNat), .bool (sgOk (neg3 a b c) m.toNat)]) ∧ w' = w) :=
      fun w m B hB h0 h1 => by subst hB; exact signed_any m (neg3 a b c) h0 h1 w
    clear D k1 k2 hk hQ hR hq hr hrn hC sc
    by_cases u : C - R < R ∨ (R = C - R ∧ Q % 2 = 1)
    · simp only [u, decide_true, if_true]
      rcases u with u | ⟨u, v⟩
      · have u' : (C : Int) - (R : Int) < R := by omega
        go_enter Tryz.func110, Tryz.ntmps110
        go_wp2_with fail
        refine (DD.out _).mono ?_
        rintro e w1 ⟨rfl, n, hw⟩; rw [hw]; clear hw w1
        go_wp2_with fail
        refine (SC.out _).mono ?_
        rintro e w1 ⟨rfl, hw⟩; rw [hw]; clear hw w1
        go_wp2_with fail
        refine (SS.out _ _ _ rfl (by omega) (by omega)).mono ?_
        rintro e w1 ⟨rfl, hw⟩; rw [hw]; clear hw w1
        go_wp2_with fail
        go_ret2
        exact ⟨rfl, _, rfl⟩
      · have u' : ((R : Int) == (C : Int) - (R : Int)) = true := by simp; omega
        have u'' : ¬ (C : Int) - (R : Int) < R := by omega
        have v' : ((Q : Int) % 2 == 1) = true := by simp; omega
        clear u v
        go_enter Tryz.func110, Tryz.ntmps110
        go_wp2_with fail
        refine (DD.out _).mono ?_
        rintro e w1 ⟨rfl, n, hw⟩; rw [hw]; clear hw w1
        go_wp2_with fail
        refine (SC.out _).mono ?_
        rintro e w1 ⟨rfl, hw⟩; rw [hw]; clear hw w1
        go_wp2_with fail
        refine (SS.out _ _ _ rfl (by omega) (by omega)).mono ?_
        rintro e w1 ⟨rfl, hw⟩; rw [hw]; clear hw w1
        go_wp2_with fail
        go_ret2
        exact ⟨rfl, _, rfl⟩
    · simp only [u, decide_false, Bool.false_eq_true, if_false]
      have u'' : ¬ (C : Int) - (R : Int) < R := by omega
      have du : decide ((C : Int) - (R : Int) < R) = false := decide_eq_false u''
      by_cases e : R = C - R
      · have u' : ((R : Int) == (C : Int) - (R : Int)) = true := by simp; omega
        have v' : ((Q : Int) % 2 == 1) = false := by rw [beq_eq_false_iff_ne]; omega
        clear u e
        go_enter Tryz.func110, Tryz.ntmps110
        go_wp2_with fail
        refine (DD.out _).mono ?_
        rintro e w1 ⟨rfl, n, hw⟩; rw [hw]; clear hw w1
        go_wp2_with fail
        refine (SC.out _).mono ?_
        rintro e w1 ⟨rfl, hw⟩; rw [hw]; clear hw w1
        go_wp2_with fail
        refine (SS.out _ _ _ rfl (by omega) (by omega)).mono ?_
        rintro e w1 ⟨rfl, hw⟩; rw [hw]; clear hw w1
        go_wp2_with fail
        go_ret2
        exact ⟨rfl, _, rfl⟩
      · have u' : ((R : Int) == (C : Int) - (R : Int)) = false := by rw [beq_eq_false_iff_ne]; omega
        clear u e
        go_enter Tryz.func110, Tryz.ntmps110
        go_wp2_with fail
        refine (DD.out _).mono ?_
        rintro e w1 ⟨rfl, n, hw⟩; rw [hw]; clear hw w1
        go_wp2_with fail
        refine (SC.out _).mono ?_
        rintro e w1 ⟨rfl, hw⟩; rw [hw]; clear hw w1
        go_wp2_with fail
        refine (SS.out _ _ _ rfl (by omega) (by omega)).mono ?_
        rintro e w1 ⟨rfl, hw⟩; rw [hw]; clear hw w1
        go_wp2_with fail
        go_ret2
        exact ⟨rfl, _, rfl⟩

end Go.Proofs.YtgdmkcbbomfmdaaGreatDoor

namespace Go.Proofs.YtgdmkcbbomfmdaaGreatDoor
open Go.RowKit IntM

theorem md_mon {b r : Int} (b0 : 0 ≤ b) (b1 : b ≤ 9223372036854775807) (r0 : 0 ≤ r) (r1 : r ≤ 100000) : mdOk b r 120000 = true ∧ mdV b r 120000 = mon b r := by
  obtain ⟨B, rfl⟩ := Int.eq_ofNat_of_zero_le b0
  obtain ⟨R, rfl⟩ := Int.eq_ofNat_of_zero_le r0
  have hm := mon_le (r := (R : Int)) (by omega : (0 : Int) ≤ (B : Int)) r1
  have e : ((rnd (B * R) 120000 : Nat) : Int) = mon B R := by
    unfold rnd upB mon rd
    rw [← Int.natCast_mul]
    generalize B * R = P
    by_cases h : 120000 - P % 120000 < P % 120000 ∨ P % 120000 = 120000 - P % 120000 ∧ P / 120000 % 2 = 1
    · rw [decide_eq_true h, if_pos rfl, if_pos (by omega)]; omega
    · rw [decide_eq_false h, if_neg (by decide), if_neg (by omega)]; omega
  have n3 : neg3 (B : Int) (R : Int) 120000 = false := by
    unfold neg3 Signs.neg2
    rw [decide_eq_false (by omega : ¬ (B : Int) < 0), decide_eq_false (by omega : ¬ (R : Int) < 0)]; rfl
  have k : mdOk (B : Int) (R : Int) 120000 = true := by
    unfold mdOk
    rw [n3]
    simp only [Int.natAbs_natCast]
    show (decide (0 < 120000) && sgOk false (rnd (B * R) 120000)) = true
    have : sgOk false (rnd (B * R) 120000) = true := by unfold sgOk; simp; omega
    rw [this]; rfl
  refine ⟨k, ?_⟩
  have k2 := k
  unfold mdOk at k2
  rw [n3] at k2
  simp only [Int.natAbs_natCast, Bool.and_eq_true] at k2
  unfold mdV
  rw [k, if_pos rfl, n3]
  unfold sgV
  simp only [Int.natAbs_natCast]
  rw [if_pos k2.2]
  simpa using e

theorem month_at (b r : Int) (b0 : 0 ≤ b) (b1 : b ≤ 9223372036854775807) (r0 : 0 ≤ r) (r1 : r ≤ 100000) (w : World) :
    Calls Tryz.prog 82 #[.int .i64 b, .int .i64 r] w fun e w' => e = .returned (.tuple #[.int .i64 (mon b r), .bool true]) ∧ ∃ n, w' = w.drewN n := by
  have IR : Hid (∀ w, Calls Tryz.prog 104 #[.int .i64 r] w fun e w' => e = .returned (.bool true) ∧ w' = w) := fun w => isRate_at r true (decide_eq_true ⟨r0, r1⟩) w
  obtain ⟨k1, k2⟩ := md_mon b0 b1 r0 r1
  have N := fun w => near_any b r 120000 (by omega) b1 (by omega) (by omega) (by omega) (by omega) w
  rw [k1, k2] at N
  generalize mon b r = m at *
  have NN : Hid (∀ w, Calls Tryz.prog 110 #[.int .i64 b, .int .i64 r, .int .i64 120000] w fun e w' => e = .returned (.tuple #[.int .i64 m, .bool true]) ∧ ∃ n, w' = w.drewN n) := N
  clear N k1 k2
  go_enter Tryz.func82, Tryz.ntmps82
  go_wp2_with fail
  refine (IR.out _).mono ?_
  rintro e w1 ⟨rfl, hw⟩; rw [hw]; clear hw w1
  go_wp2_with fail
  refine (NN.out _).mono ?_
  rintro e w1 ⟨rfl, n, hw⟩; rw [hw]; clear hw w1
  go_wp2_with fail
  go_ret2
  exact ⟨rfl, _, rfl⟩

theorem month_no (b r : Int) (h : ¬ (0 ≤ b ∧ 0 ≤ r ∧ r ≤ 100000)) (w : World) :
    Calls Tryz.prog 82 #[.int .i64 b, .int .i64 r] w fun e w' => e = .returned (.tuple #[.int .i64 0, .bool false]) ∧ w' = w := by
  by_cases hb : 0 ≤ b
  · have IR : Hid (∀ w, Calls Tryz.prog 104 #[.int .i64 r] w fun e w' => e = .returned (.bool false) ∧ w' = w) := fun w => isRate_at r false (decide_eq_false (by omega)) w
    clear h
    go_enter Tryz.func82, Tryz.ntmps82
    go_wp2_with fail
    refine (IR.out _).mono ?_
    rintro e w1 ⟨rfl, hw⟩; rw [hw]; clear hw w1
    go_wp2_with fail
    go_ret2
    exact ⟨rfl, rfl⟩
  · clear h
    go_enter Tryz.func82, Tryz.ntmps82
    go_wp2_with fail
    go_ret2
    exact ⟨rfl, rfl⟩
end Go.Proofs.YtgdmkcbbomfmdaaGreatDoor

namespace Go.Proofs.YtgdmkcbbomfmdaaGreatDoor
open Go.RowKit IntM

theorem refRate_at (x : Int) (b : Bool) (h : rateB x = b) (w : World) :
    Calls Tryz.prog 50 #[.int .i64 x] w fun e w' => e = .returned (.bool b) ∧ w' = w := by
  subst h
  unfold rateB
  go_enter Tryz.func50, Tryz.ntmps50
  go_wp2_with fail
  all_goals
    go_ret
    refine ⟨ret_boolI ?_, rfl⟩
    rw [Bool.eq_iff_iff]
    simp
    try omega

theorem small_prod {x r : Int} {X : Int} (x0 : 0 ≤ x) (x1 : x ≤ X) (r0 : 0 ≤ r) (r1 : r ≤ 100000) : 0 ≤ x * r ∧ x * r ≤ X * 100000 :=
  ⟨Int.mul_nonneg x0 r0, Int.mul_le_mul x1 r1 r0 (by omega)⟩

theorem rd_spec (n : Int) : ((120000 < 2 * (n % 120000) ∨ (2 * (n % 120000) = 120000 ∧ n / 120000 % 2 = 1)) ∧ rd n = n / 120000 + 1) ∨ (¬ (120000 < 2 * (n % 120000) ∨ (2 * (n % 120000) = 120000 ∧ n / 120000 % 2 = 1)) ∧ rd n = n / 120000) := by
  unfold rd; split
  · left; exact ⟨by assumption, rfl⟩
  · right; exact ⟨by assumption, rfl⟩

set_option maxHeartbeats 400000 in
theorem refmonth_at (b r : Int) (b0 : 0 ≤ b) (b1 : b ≤ 9223372036854775807) (r0 : 0 ≤ r) (r1 : r ≤ 100000) (w : World) :
    Calls Tryz.prog 37 #[.int .i64 b, .int .i64 r] w fun e w' => e = .returned (.int .i64 (mon b r)) ∧ w' = w := by
  have hp := mon_parts b r
  have hm := mon_le (r := r) b0 r1
  obtain ⟨x0, x1⟩ := small_prod (x := b / 120000) (X := 76861433640456) (by omega) (by omega) r0 r1
  obtain ⟨y0, y1⟩ := small_prod (x := b % 120000) (X := 119999) (by omega) (by omega) r0 r1
  have hs := rd_spec (b * r)
  unfold mon at *
  generalize rd (b * r) = M at *
  rw [hp] at hs
  clear hp
  go_enter Tryz.func37, Tryz.ntmps37
  generalize hX : b / 120000 * r = X at *
  generalize hY : b % 120000 * r = Y at *
  go_wp2_with fail
  all_goals
    go_ret
    refine ⟨ret_int ?_, rfl⟩
    try simp only [beq_iff_eq, beq_eq_false_iff_ne] at *
    omega

end Go.Proofs.YtgdmkcbbomfmdaaGreatDoor
