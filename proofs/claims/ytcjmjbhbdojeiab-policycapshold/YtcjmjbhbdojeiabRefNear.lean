/-
  Ours: the contract of arrearsref1.MulDiv.
-/
import Derived.Test.YtcjmjbhbdojeiabRefParts
import Derived.Test.YtcjmjbhbdojeiabNear
namespace Go.Proofs.Ytcjmjbhbdojeiab
open Go.RowKit

theorem first_digit {q : List Int} {Q : Nat} (lq : q.length = 128) (uq : Upto 1 q) (vq : val q = (Q : Int)) : q.getD 0 0 = ((Q % 2 : Nat) : Int) := by
  have h := val_drop q 0 (by omega)
  rw [List.drop_zero] at h
  have u := uq 0
  omega

set_option maxHeartbeats 2000000 in
theorem rnear_any (a b c : Int) (a0 : -9223372036854775808 ≤ a) (a1 : a ≤ 9223372036854775807) (b0 : -9223372036854775808 ≤ b) (b1 : b ≤ 9223372036854775807) (c0 : -9223372036854775808 ≤ c) (c1 : c ≤ 9223372036854775807) (w : World) :
    Calls Try.prog 26 #[.int .i64 a, .int .i64 b, .int .i64 c] w fun e w' =>
      e = .returned (.tuple #[.int .i64 (mdV a b c), .bool (mdOk a b c)]) ∧ Below w.heap.size w w' := by
  by_cases hc : c = 0
  · have e1 : mdOk a b c = false := by simp [mdOk, hc]
    have e2 : mdV a b c = 0 := by simp [mdV, e1]
    rw [e1, e2]
    clear e1 e2
    subst hc
    go_enter Try.func26, Try.ntmps26
    go_wp2_with fail
    go_ret2
    exact ⟨rfl, Below.refl _ _⟩
  · have cz : (c == 0) = false := by rw [beq_eq_false_iff_ne]; exact hc
    have ok : mdOk a b c = sgOk (neg3 a b c) (rnd (a.natAbs * b.natAbs) c.natAbs) := by simp [mdOk]; omega
    have vk : mdV a b c = sgV (neg3 a b c) (rnd (a.natAbs * b.natAbs) c.natAbs) := by
      unfold mdV sgV
      rw [ok]
      split <;> rfl
    obtain ⟨A, hA⟩ : ∃ A, a.natAbs = A := ⟨_, rfl⟩
    obtain ⟨B, hB⟩ : ∃ B, b.natAbs = B := ⟨_, rfl⟩
    obtain ⟨C, hC⟩ : ∃ C, c.natAbs = C := ⟨_, rfl⟩
    have A1 : A ≤ 9223372036854775808 := by omega
    have B1 : B ≤ 9223372036854775808 := by omega
    have C1 : C ≤ 9223372036854775808 := by omega
    have C0 : 0 < C := by omega
    have sa := fun w => rsize_any a a0 a1 w
    have sb := fun w => rsize_any b b0 b1 w
    have sc := fun w => rsize_any c c0 c1 w
    rw [hA] at sa
    rw [hB] at sb
    rw [hC] at sc
    have SA : Hid (∀ w, Calls Try.prog 33 #[.int .i64 a] w fun e w' => e = .returned (.int .u64 (A : Int)) ∧ w' = w) := sa
    have SB : Hid (∀ w, Calls Try.prog 33 #[.int .i64 b] w fun e w' => e = .returned (.int .u64 (B : Int)) ∧ w' = w) := sb
    have SC : Hid (∀ w, Calls Try.prog 33 #[.int .i64 c] w fun e w' => e = .returned (.int .u64 (C : Int)) ∧ w' = w) := sc
    clear sa sb sc
    rw [hA, hB, hC] at ok vk
    obtain ⟨P, hP⟩ : ∃ P, A * B = P := ⟨_, rfl⟩
    obtain ⟨Q, hQ⟩ : ∃ Q, P / C = Q := ⟨_, rfl⟩
    obtain ⟨R, hR⟩ : ∃ R, P % C = R := ⟨_, rfl⟩
    have R1 : R < C := by rw [← hR]; exact Nat.mod_lt _ C0
    have Q1 : Q + 1 < 340282366920938463463374607431768211456 := by
      have h1 : A * B ≤ 9223372036854775808 * 9223372036854775808 := Nat.mul_le_mul A1 B1
      have h2 := Nat.div_le_self P C
      omega
    have hrn : rnd (A * B) C = if decide (C - R < R ∨ (R = C - R ∧ Q % 2 = 1)) then Q + 1 else Q := by
      unfold rnd upB; rw [hP, hQ, hR]
    rw [hrn] at ok vk
    generalize mdV a b c = V at *
    generalize mdOk a b c = K at *
    have HP : Hid (A * B = P) := hP
    have HQ : Hid (P / C = Q) := hQ
    have HR : Hid (P % C = R) := hR
    have OK : Hid (K = sgOk (neg3 a b c) (if decide (C - R < R ∨ (R = C - R ∧ Q % 2 = 1)) then Q + 1 else Q)) := ok
    have VK : Hid (V = sgV (neg3 a b c) (if decide (C - R < R ∨ (R = C - R ∧ Q % 2 = 1)) then Q + 1 else Q)) := vk
    have FIN : Hid (∀ m n (v : Value) (S : List Int) w B', B' = n → K = sgOk n m → V = sgV n m → Row 3 0 w v S → S.length = 128 → Upto 1 S → val S = ((m : Nat) : Int) → Calls Try.prog 38 #[.bool B', v] w fun e w' => e = .returned (.tuple #[.int .i64 V, .bool K]) ∧ w' = w) := by
      intro m n v S w B' hB' hK hV h1 h2 h3 h4
      subst hB'
      rw [hK, hV]
      exact signedBy_any _ m v S w h1 h2 h3 h4
    clear hA hB hC hP hQ hR ok vk hrn hc
    go_enter Try.func26, Try.ntmps26
    go_wp2_with fail
    refine (SC.out _).mono ?_
    rintro e w1 ⟨rfl, hw⟩; rw [hw]; clear hw w1
    go_wp2_with fail
    refine (SA.out _).mono ?_
    rintro e w1 ⟨rfl, hw⟩; rw [hw]; clear hw w1
    go_wp2_with fail
    refine (digits_any A (by omega) _).mono ?_
    rintro e w1 ⟨va, rfl, ra, b1⟩
    go_wp2_with fail
    refine (SB.out _).mono ?_
    rintro e w2 ⟨rfl, hw⟩; rw [hw]; clear hw w2
    go_wp2_with fail
    refine (digits_any B (by omega) _).mono ?_
    rintro e w2 ⟨vb, rfl, rb, b2⟩
    have ra2 := (ra.later b2).mono (Nat.zero_le _)
    have rb2 := rb.mono (Nat.zero_le _)
    have bb2 := below2 b1 b2
    clear ra rb b1 b2
    go_wp2_with fail
    refine (product_any A B (by omega) (by omega) va vb _ ra2 rb2).mono ?_
    rintro e w3 ⟨vs, rfl, S3, r3, l3, u3, v3, b3⟩
    have bb3 := below2 bb2 b3
    have r3' := r3.mono (Nat.zero_le _)
    clear ra2 rb2 bb2 b3 r3
    rw [HP.out] at v3
    go_wp2_with fail
    refine (quotient_any P C C0 (by omega) vs S3 _ r3' l3 u3 v3).mono ?_
    rintro e w4 ⟨vq, rfl, q4, r4, l4, u4, v4, b4⟩
    have bb4 := below2 bb3 b4
    have r4' := r4.mono (Nat.zero_le _)
    clear r3' l3 u3 v3 bb3 b4 r4
    rw [HQ.out] at v4
    rw [HR.out]
    obtain ⟨g, cap, hv, _, _, _, _, cell, _⟩ := r4'.arr (by omega)
    have cq := cell 0 (by omega)
    rw [first_digit l4 u4 v4] at cq
    rw [l4] at hv
    rw [hv] at r4' ⊢
    clear cell
    by_cases u : C - R < R ∨ (R = C - R ∧ Q % 2 = 1)
    · have OK' : Hid (K = sgOk (neg3 a b c) (Q + 1)) := by have := OK.out; simp only [u, decide_true, if_true] at this; exact this
      have VK' : Hid (V = sgV (neg3 a b c) (Q + 1)) := by have := VK.out; simp only [u, decide_true, if_true] at this; exact this
      clear OK VK
      rcases u with u | ⟨u, v⟩
      · have u' : (C : Int) - (R : Int) < R := by omega
        go_wp2_with fail
        refine (greater_any Q Q1 _ q4 _ r4' l4 u4 v4).mono ?_
        rintro e w5 ⟨vq5, rfl, q5, r5, l5, u5, v5, b5⟩
        have bb5 := below2 bb4 b5
        have r5' := r5.mono (Nat.zero_le _)
        clear b5 r5
        go_wp2_with fail
        refine (FIN.out (Q + 1) (neg3 a b c) vq5 q5 _ _ rfl OK'.out VK'.out r5' l5 u5 v5).mono ?_
        rintro e w6 ⟨rfl, hw⟩; rw [hw]; clear hw w6
        go_wp2_with fail
        go_ret2
        exact ⟨rfl, bb5⟩
      · have u' : ((R : Int) == (C : Int) - (R : Int)) = true := by simp; omega
        have u'' : ¬ (C : Int) - (R : Int) < R := by omega
        rw [v] at cq
        clear u v
        go_wp2_with fail
        refine (greater_any Q Q1 _ q4 _ r4' l4 u4 v4).mono ?_
        rintro e w5 ⟨vq5, rfl, q5, r5, l5, u5, v5, b5⟩
        have bb5 := below2 bb4 b5
        have r5' := r5.mono (Nat.zero_le _)
        clear b5 r5
        go_wp2_with fail
        refine (FIN.out (Q + 1) (neg3 a b c) vq5 q5 _ _ rfl OK'.out VK'.out r5' l5 u5 v5).mono ?_
        rintro e w6 ⟨rfl, hw⟩; rw [hw]; clear hw w6
        go_wp2_with fail
        go_ret2
        exact ⟨rfl, bb5⟩
    · have OK' : Hid (K = sgOk (neg3 a b c) Q) := by have := OK.out; simp only [u, decide_false, Bool.false_eq_true, if_false] at this; exact this
      have VK' : Hid (V = sgV (neg3 a b c) Q) := by have := VK.out; simp only [u, decide_false, Bool.false_eq_true, if_false] at this; exact this
      clear OK VK
      have u'' : ¬ (C : Int) - (R : Int) < R := by omega
      have du : decide ((C : Int) - (R : Int) < R) = false := decide_eq_false u''
      by_cases e : R = C - R
      · have u' : ((R : Int) == (C : Int) - (R : Int)) = true := by simp; omega
        rw [show Q % 2 = 0 from by omega] at cq
        clear u e
        go_wp2_with fail
        refine (FIN.out Q (neg3 a b c) _ q4 _ _ rfl OK'.out VK'.out r4' l4 u4 v4).mono ?_
        rintro e w6 ⟨rfl, hw⟩; rw [hw]; clear hw w6
        go_wp2_with fail
        go_ret2
        exact ⟨rfl, bb4⟩
      · have u' : ((R : Int) == (C : Int) - (R : Int)) = false := by rw [beq_eq_false_iff_ne]; omega
        clear u e
        go_wp2_with fail
        refine (FIN.out Q (neg3 a b c) _ q4 _ _ rfl OK'.out VK'.out r4' l4 u4 v4).mono ?_
        rintro e w6 ⟨rfl, hw⟩; rw [hw]; clear hw w6
        go_wp2_with fail
        go_ret2
        exact ⟨rfl, bb4⟩

end Go.Proofs.Ytcjmjbhbdojeiab
