/-
  Ours: the contract of money.MulDiv.
-/
import Derived.Test.YtcjmjbhbdojeiabCalcD
namespace Go.Proofs.Ytcjmjbhbdojeiab
open Go.RowKit

/-- Is the rounding upward? (The rest beyond the half, or just the half and the quotient odd.) -/
def upB (P C : Nat) : Bool := decide (C - P % C < P % C ∨ (P % C = C - P % C ∧ P / C % 2 = 1))
/-- The sizes' fraction to the nearest whole number, a half to the even one. -/
def rnd (P C : Nat) : Nat := if upB P C then P / C + 1 else P / C
def neg3 (a b c : Int) : Bool := Signs.neg2 a b != decide (c < 0)
def mdOk (a b c : Int) : Bool := decide (0 < c.natAbs) && sgOk (neg3 a b c) (rnd (a.natAbs * b.natAbs) c.natAbs)
def mdV (a b c : Int) : Int := if mdOk a b c then sgV (neg3 a b c) (rnd (a.natAbs * b.natAbs) c.natAbs) else 0

theorem md_no {a b c : Int} (h : dvOk (a.natAbs * b.natAbs) c.natAbs = false) : mdOk a b c = false := by
  unfold mdOk
  by_cases hc : 0 < c.natAbs
  · have hq : 9223372036854775808 < a.natAbs * b.natAbs / c.natAbs := by
      simp only [dvOk, decide_eq_false_iff_not] at h
      omega
    have hr : 9223372036854775808 < rnd (a.natAbs * b.natAbs) c.natAbs := by unfold rnd; split <;> omega
    simp only [hc, decide_true, Bool.true_and]
    generalize rnd (a.natAbs * b.natAbs) c.natAbs = z at *
    unfold sgOk
    split <;> simp <;> omega
  · simp [hc]
theorem md_yes {a b c : Int} (h : dvOk (a.natAbs * b.natAbs) c.natAbs = true) :
    mdOk a b c = sgOk (neg3 a b c) (rnd (a.natAbs * b.natAbs) c.natAbs) ∧ mdV a b c = sgV (neg3 a b c) (rnd (a.natAbs * b.natAbs) c.natAbs) := by
  have hc : 0 < c.natAbs := by simp only [dvOk, decide_eq_true_iff] at h; exact h.1
  have e : mdOk a b c = sgOk (neg3 a b c) (rnd (a.natAbs * b.natAbs) c.natAbs) := by simp [mdOk, hc]
  refine ⟨e, ?_⟩
  unfold mdV sgV
  rw [e]
  split
  · rfl
  · rfl

set_option maxHeartbeats 1000000 in
theorem near_any (a b c : Int) (a0 : -9223372036854775808 ≤ a) (a1 : a ≤ 9223372036854775807) (b0 : -9223372036854775808 ≤ b) (b1 : b ≤ 9223372036854775807) (c0 : -9223372036854775808 ≤ c) (c1 : c ≤ 9223372036854775807) (w : World) :
    Calls Try.prog 24 #[.int .i64 a, .int .i64 b, .int .i64 c] w fun e w' =>
      e = .returned (.tuple #[.int .i64 (mdV a b c), .bool (mdOk a b c)]) ∧ ∃ n, w' = w.drewN n := by
  have D := fun w => divide_any a b c a0 a1 b0 b1 c0 c1 w
  obtain ⟨Q, hQ⟩ : ∃ Q, dvQ (a.natAbs * b.natAbs) c.natAbs = Q := ⟨_, rfl⟩
  obtain ⟨R, hR⟩ : ∃ R, dvR (a.natAbs * b.natAbs) c.natAbs = R := ⟨_, rfl⟩
  cases hk : dvOk (a.natAbs * b.natAbs) c.natAbs
  · have e1 : mdOk a b c = false := md_no hk
    have e2 : mdV a b c = 0 := by simp [mdV, e1]
    rw [hk, hQ, hR] at D
    rw [e1, e2]
    have DD : Hid (∀ w, Calls Try.prog 29 #[.int .i64 a, .int .i64 b, .int .i64 c] w fun e w' => e = .returned (.tuple #[.int .u64 (Q : Int), .int .u64 (R : Int), .bool false]) ∧ ∃ n, w' = w.drewN n) := D
    clear e1 e2 D hk hQ hR
    go_enter Try.func24, Try.ntmps24
    go_wp2_with fail
    refine (DD.out _).mono ?_
    rintro e w1 ⟨rfl, n, hw⟩; rw [hw]; clear hw w1
    go_wp2_with fail
    go_ret2
    exact ⟨rfl, _, rfl⟩
  · obtain ⟨k1, k2⟩ := md_yes hk
    have hq : a.natAbs * b.natAbs / c.natAbs = Q := by rw [← hQ, dvQ, hk, if_pos rfl]
    have hr : a.natAbs * b.natAbs % c.natAbs = R := by rw [← hR, dvR, hk, if_pos rfl]
    have Q1 : Q ≤ 9223372036854775808 := by
      have h := hk
      simp only [dvOk, decide_eq_true_iff] at h
      rw [← hq]; exact h.2
    have R1 : R < c.natAbs := by
      rw [← hr]
      refine Nat.mod_lt _ ?_
      have h := hk
      simp only [dvOk, decide_eq_true_iff] at h
      exact h.1
    rw [hk, hQ, hR] at D
    have hrn : rnd (a.natAbs * b.natAbs) c.natAbs = if decide (c.natAbs - R < R ∨ (R = c.natAbs - R ∧ Q % 2 = 1)) then Q + 1 else Q := by
      unfold rnd upB; rw [hq, hr]
    rw [hrn] at k1 k2
    rw [k1, k2]
    have sc := fun w => size_any c c0 c1 w
    obtain ⟨C, hC⟩ : ∃ C, c.natAbs = C := ⟨_, rfl⟩
    rw [hC] at R1 sc ⊢
    have C1 : C ≤ 9223372036854775808 := by omega
    have DD : Hid (∀ w, Calls Try.prog 29 #[.int .i64 a, .int .i64 b, .int .i64 c] w fun e w' => e = .returned (.tuple #[.int .u64 (Q : Int), .int .u64 (R : Int), .bool true]) ∧ ∃ n, w' = w.drewN n) := D
    have SC : Hid (∀ w, Calls Try.prog 30 #[.int .i64 c] w fun e w' => e = .returned (.int .u64 (C : Int)) ∧ w' = w) := sc
    have SS : Hid (∀ w (m : Int) B, B = neg3 a b c → 0 ≤ m → m < 18446744073709551616 → Calls Try.prog 31 #[.int .u64 m, .bool B] w fun e w' => e = .returned (.tuple #[.int .i64 (sgV (neg3 a b c) m.toNat), .bool (sgOk (neg3 a b c) m.toNat)]) ∧ w' = w) :=
      fun w m B hB h0 h1 => by subst hB; exact signed_any m (neg3 a b c) h0 h1 w
    clear D k1 k2 hk hQ hR hq hr hrn hC sc
    by_cases u : C - R < R ∨ (R = C - R ∧ Q % 2 = 1)
    · simp only [u, decide_true, if_true]
      rcases u with u | ⟨u, v⟩
      · have u' : (C : Int) - (R : Int) < R := by omega
        go_enter Try.func24, Try.ntmps24
        go_wp2_with fail
        refine (DD.out _).mono ?_
        rintro e w1 ⟨rfl, n, hw⟩; rw [hw]; clear hw w1
        go_wp2_with fail
        refine (SC.out _).mono ?_
        rintro e w1 ⟨rfl, hw⟩; rw [hw]; clear hw w1
        go_wp2_with fail
        refine (SS.out _ _ _ rfl (by omega) (by omega)).mono ?_
        rintro e w1 ⟨rfl, hw⟩; rw [hw]; clear hw w1
        go_wp2_with fail
        go_ret2
        exact ⟨rfl, _, rfl⟩
      · have u' : ((R : Int) == (C : Int) - (R : Int)) = true := by simp; omega
        have u'' : ¬ (C : Int) - (R : Int) < R := by omega
        have v' : ((Q : Int) % 2 == 1) = true := by simp; omega
        clear u v
        go_enter Try.func24, Try.ntmps24
        go_wp2_with fail
        refine (DD.out _).mono ?_
        rintro e w1 ⟨rfl, n, hw⟩; rw [hw]; clear hw w1
        go_wp2_with fail
        refine (SC.out _).mono ?_
        rintro e w1 ⟨rfl, hw⟩; rw [hw]; clear hw w1
        go_wp2_with fail
        refine (SS.out _ _ _ rfl (by omega) (by omega)).mono ?_
        rintro e w1 ⟨rfl, hw⟩; rw [hw]; clear hw w1
        go_wp2_with fail
        go_ret2
        exact ⟨rfl, _, rfl⟩
    · simp only [u, decide_false, Bool.false_eq_true, if_false]
      have u'' : ¬ (C : Int) - (R : Int) < R := by omega
      have du : decide ((C : Int) - (R : Int) < R) = false := decide_eq_false u''
      by_cases e : R = C - R
      · have u' : ((R : Int) == (C : Int) - (R : Int)) = true := by simp; omega
        have v' : ((Q : Int) % 2 == 1) = false := by rw [beq_eq_false_iff_ne]; omega
        clear u e
        go_enter Try.func24, Try.ntmps24
        go_wp2_with fail
        refine (DD.out _).mono ?_
        rintro e w1 ⟨rfl, n, hw⟩; rw [hw]; clear hw w1
        go_wp2_with fail
        refine (SC.out _).mono ?_
        rintro e w1 ⟨rfl, hw⟩; rw [hw]; clear hw w1
        go_wp2_with fail
        refine (SS.out _ _ _ rfl (by omega) (by omega)).mono ?_
        rintro e w1 ⟨rfl, hw⟩; rw [hw]; clear hw w1
        go_wp2_with fail
        go_ret2
        exact ⟨rfl, _, rfl⟩
      · have u' : ((R : Int) == (C : Int) - (R : Int)) = false := by rw [beq_eq_false_iff_ne]; omega
        clear u e
        go_enter Try.func24, Try.ntmps24
        go_wp2_with fail
        refine (DD.out _).mono ?_
        rintro e w1 ⟨rfl, n, hw⟩; rw [hw]; clear hw w1
        go_wp2_with fail
        refine (SC.out _).mono ?_
        rintro e w1 ⟨rfl, hw⟩; rw [hw]; clear hw w1
        go_wp2_with fail
        refine (SS.out _ _ _ rfl (by omega) (by omega)).mono ?_
        rintro e w1 ⟨rfl, hw⟩; rw [hw]; clear hw w1
        go_wp2_with fail
        go_ret2
        exact ⟨rfl, _, rfl⟩

end Go.Proofs.Ytcjmjbhbdojeiab
