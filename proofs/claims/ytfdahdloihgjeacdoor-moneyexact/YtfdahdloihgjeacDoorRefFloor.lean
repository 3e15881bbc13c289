/-
  Ours: the contract of arrearsref1.MulDivFloor.
-/
import Derived.Test.YtfdahdloihgjeacDoorRefParts
import Derived.Test.YtfdahdloihgjeacDoorCalc
namespace Go.Proofs.YtfdahdloihgjeacDoor
open Go.RowKit

namespace Floor
theorem up' {a b c : Int} (c0 : 0 < c) (hn : Signs.neg2 a b = false) :
    flOk a b c = sgOk false ((a.natAbs * b.natAbs) / c.natAbs) ∧ flQ a b c = sgV false ((a.natAbs * b.natAbs) / c.natAbs) ∧ (flOk a b c = true → flR a b c = (((a.natAbs * b.natAbs) % c.natAbs : Nat) : Int)) := by
  obtain ⟨C, rfl⟩ := Int.eq_ofNat_of_zero_le (Int.le_of_lt c0)
  rw [Int.natAbs_natCast] at *
  have e := Signs.prod a b
  rw [hn] at e
  simp only [Bool.false_eq_true, if_false] at e
  generalize a.natAbs * b.natAbs = P at *
  have l := Nat.mod_lt P (show 0 < C by omega)
  obtain ⟨f1, f2⟩ := Signs.floor_up P C
  have k : flOk a b C = sgOk false (P / C) := by
    simp only [flOk, sgOk, e, f1, Bool.false_eq_true, if_false]
    rw [decide_eq_decide]
    generalize P / C = z
    omega
  refine ⟨k, ?_, ?_⟩
  · unfold flQ sgV
    rw [k, e, f1]
    simp only [Bool.false_eq_true, if_false]
  · intro hk
    unfold flR
    rw [hk, e, f2]
    simp only [if_true]
    try omega
theorem even' {a b c : Int} (c0 : 0 < c) (hn : Signs.neg2 a b = true) (hr : (a.natAbs * b.natAbs) % c.natAbs = 0) :
    flOk a b c = sgOk true ((a.natAbs * b.natAbs) / c.natAbs) ∧ flQ a b c = sgV true ((a.natAbs * b.natAbs) / c.natAbs) ∧ (flOk a b c = true → flR a b c = 0) := by
  obtain ⟨C, rfl⟩ := Int.eq_ofNat_of_zero_le (Int.le_of_lt c0)
  rw [Int.natAbs_natCast] at *
  have e := Signs.prod a b
  rw [hn] at e
  simp only [if_true] at e
  generalize a.natAbs * b.natAbs = P at *
  have l := Nat.mod_lt P (show 0 < C by omega)
  obtain ⟨f1, f2⟩ := Signs.floor_even P C (by omega) hr
  have k : flOk a b C = sgOk true (P / C) := by
    simp only [flOk, sgOk, e, f1, if_true]
    rw [decide_eq_decide]
    generalize P / C = z
    omega
  refine ⟨k, ?_, ?_⟩
  · unfold flQ sgV
    rw [k, e, f1]
    simp only [if_true]
  · intro hk
    unfold flR
    rw [hk, e, f2]
    simp only [if_true]
    try omega
theorem down' {a b c : Int} (c0 : 0 < c) (hn : Signs.neg2 a b = true) (hr : 0 < (a.natAbs * b.natAbs) % c.natAbs) :
    flOk a b c = sgOk true ((a.natAbs * b.natAbs) / c.natAbs + 1) ∧ flQ a b c = sgV true ((a.natAbs * b.natAbs) / c.natAbs + 1) ∧ (flOk a b c = true → flR a b c = c - (((a.natAbs * b.natAbs) % c.natAbs : Nat) : Int)) := by
  obtain ⟨C, rfl⟩ := Int.eq_ofNat_of_zero_le (Int.le_of_lt c0)
  rw [Int.natAbs_natCast] at *
  have e := Signs.prod a b
  rw [hn] at e
  simp only [if_true] at e
  generalize a.natAbs * b.natAbs = P at *
  have l := Nat.mod_lt P (show 0 < C by omega)
  obtain ⟨f1, f2⟩ := Signs.floor_down P C (by omega) hr
  have k : flOk a b C = sgOk true (P / C + 1) := by
    simp only [flOk, sgOk, e, f1, if_true]
    rw [decide_eq_decide]
    generalize P / C = z
    omega
  refine ⟨k, ?_, ?_⟩
  · unfold flQ sgV
    rw [k, e, f1]
    simp only [if_true]
  · intro hk
    unfold flR
    rw [hk, e, f2]
    simp only [if_true]
    try omega
end Floor

set_option maxHeartbeats 2000000 in
theorem rfloor_any (a b c : Int) (a0 : -9223372036854775808 ≤ a) (a1 : a ≤ 9223372036854775807) (b0 : -9223372036854775808 ≤ b) (b1 : b ≤ 9223372036854775807) (c0 : -9223372036854775808 ≤ c) (c1 : c ≤ 9223372036854775807) (w : World) :
    Calls Tryd.prog 29 #[.int .i64 a, .int .i64 b, .int .i64 c] w fun e w' =>
      e = .returned (.tuple #[.int .i64 (flQ a b c), .int .i64 (flR a b c), .bool (flOk a b c)]) ∧ Below w.heap.size w w' := by
  by_cases hc : c ≤ 0
  · have e1 : flOk a b c = false := by simp [flOk]; omega
    have e2 : flQ a b c = 0 := by simp [flQ, e1]
    have e3 : flR a b c = 0 := by simp [flR, e1]
    rw [e1, e2, e3]
    clear e1 e2 e3
    go_enter Tryd.func29, Tryd.ntmps29
    go_wp2_with fail
    go_ret3
    exact ⟨rfl, Below.refl _ _⟩
  · obtain ⟨A, hA⟩ : ∃ A, a.natAbs = A := ⟨_, rfl⟩
    obtain ⟨B, hB⟩ : ∃ B, b.natAbs = B := ⟨_, rfl⟩
    obtain ⟨C, hC⟩ : ∃ C, c.natAbs = C := ⟨_, rfl⟩
    have A1 : A ≤ 9223372036854775808 := by omega
    have B1 : B ≤ 9223372036854775808 := by omega
    have C1 : C ≤ 9223372036854775807 := by omega
    have C0 : 0 < C := by omega
    have sa := fun w => rsize_any a a0 a1 w
    have sb := fun w => rsize_any b b0 b1 w
    have sc := fun w => rsize_any c c0 c1 w
    rw [hA] at sa
    rw [hB] at sb
    rw [hC] at sc
    have SA : Hid (∀ w, Calls Tryd.prog 54 #[.int .i64 a] w fun e w' => e = .returned (.int .u64 (A : Int)) ∧ w' = w) := sa
    have SB : Hid (∀ w, Calls Tryd.prog 54 #[.int .i64 b] w fun e w' => e = .returned (.int .u64 (B : Int)) ∧ w' = w) := sb
    have SC : Hid (∀ w, Calls Tryd.prog 54 #[.int .i64 c] w fun e w' => e = .returned (.int .u64 (C : Int)) ∧ w' = w) := sc
    clear sa sb sc
    obtain ⟨P, hP⟩ : ∃ P, A * B = P := ⟨_, rfl⟩
    obtain ⟨Q, hQ⟩ : ∃ Q, P / C = Q := ⟨_, rfl⟩
    obtain ⟨R, hR⟩ : ∃ R, P % C = R := ⟨_, rfl⟩
    have R1 : R < C := by rw [← hR]; exact Nat.mod_lt _ C0
    have Q1 : Q + 1 < 340282366920938463463374607431768211456 := by
      have h1 : A * B ≤ 9223372036854775808 * 9223372036854775808 := Nat.mul_le_mul A1 B1
      have h2 := Nat.div_le_self P C
      omega
    have k4 : flOk a b c = false → flQ a b c = 0 ∧ flR a b c = 0 := fun h => by simp [flQ, flR, h]
    have fup := fun (hn : Signs.neg2 a b = false) => Floor.up' (show 0 < c by omega) hn
    have fev := fun (hn : Signs.neg2 a b = true) hr => Floor.even' (show 0 < c by omega) hn hr
    have fdn := fun (hn : Signs.neg2 a b = true) hr => Floor.down' (show 0 < c by omega) hn hr
    rw [hA, hB, hC, hP, hQ] at fup fev fdn
    rw [hR] at fup fev fdn
    generalize flQ a b c = V at *
    generalize flR a b c = S at *
    generalize flOk a b c = K at *
    have cC : (C : Int) = c := by omega
    have HP : Hid (A * B = P) := hP
    have HQ : Hid (P / C = Q) := hQ
    have HR : Hid (P % C = R) := hR
    have FIN : Hid (∀ {x y : Int} {z : Bool}, x = V → y = S → z = K → Ending.returned (.tuple #[.int .i64 x, .int .i64 y, .bool z]) = .returned (.tuple #[.int .i64 V, .int .i64 S, .bool K])) := by
      intro x y z h1 h2 h3; rw [h1, h2, h3]
    have FU : Hid (Signs.neg2 a b = false → K = sgOk false Q ∧ V = sgV false Q ∧ (K = true → S = (R : Int))) := fup
    have FE : Hid (Signs.neg2 a b = true → R = 0 → K = sgOk true Q ∧ V = sgV true Q ∧ (K = true → S = 0)) := fev
    have FD : Hid (Signs.neg2 a b = true → 0 < R → K = sgOk true (Q + 1) ∧ V = sgV true (Q + 1) ∧ (K = true → S = c - (R : Int))) := fdn
    have K4 : Hid (K = false → V = 0 ∧ S = 0) := k4
    have CC : Hid ((C : Int) = c) := cC
    clear fup fev fdn k4 hA hB hC hP hQ hR cC
    go_enter Tryd.func29, Tryd.ntmps29
    go_wp2_with fail
    refine (SC.out _).mono ?_
    rintro e w1 ⟨rfl, hw⟩; rw [hw]; clear hw w1
    go_wp2_with fail
    refine (SA.out _).mono ?_
    rintro e w1 ⟨rfl, hw⟩; rw [hw]; clear hw w1
    go_wp2_with fail
    refine (digits_any A (by omega) _).mono ?_
    rintro e w1 ⟨va, rfl, ra, b1⟩
    go_wp2_with fail
    refine (SB.out _).mono ?_
    rintro e w2 ⟨rfl, hw⟩; rw [hw]; clear hw w2
    go_wp2_with fail
    refine (digits_any B (by omega) _).mono ?_
    rintro e w2 ⟨vb, rfl, rb, b2⟩
    have ra2 := (ra.later b2).mono (Nat.zero_le _)
    have rb2 := rb.mono (Nat.zero_le _)
    have bb2 := below2 b1 b2
    clear ra rb b1 b2
    go_wp2_with fail
    refine (product_any A B (by omega) (by omega) va vb _ ra2 rb2).mono ?_
    rintro e w3 ⟨vs, rfl, S3, r3, l3, u3, v3, b3⟩
    have bb3 := below2 bb2 b3
    have r3' := r3.mono (Nat.zero_le _)
    clear ra2 rb2 bb2 b3 r3
    rw [HP.out] at v3
    go_wp2_with fail
    refine (quotient_any P C C0 (by omega) vs S3 _ r3' l3 u3 v3).mono ?_
    rintro e w4 ⟨vq, rfl, q4, r4, l4, u4, v4, b4⟩
    have bb4 := below2 bb3 b4
    have r4' := r4.mono (Nat.zero_le _)
    clear r3' l3 u3 v3 bb3 b4 r4
    rw [HQ.out] at v4
    rw [HR.out]
    have dich : (Signs.neg2 a b = false ∧ ((a < 0 ∧ b < 0) ∨ (¬ a < 0 ∧ ¬ b < 0))) ∨ (Signs.neg2 a b = true ∧ ((a < 0 ∧ ¬ b < 0) ∨ (¬ a < 0 ∧ b < 0))) := by
      by_cases ha : a < 0 <;> by_cases hb : b < 0 <;> simp [Signs.neg2, ha, hb]
    rcases dich with ⟨hn, hab⟩ | ⟨hn, hab⟩
    · obtain ⟨k1, k2, k3⟩ := FU.out hn
      have N1 : Hid (sgOk false Q = K) := k1.symm
      have N2 : Hid (sgV false Q = V) := k2.symm
      have N3 : Hid (K = true → S = (R : Int)) := k3
      clear k1 k2 k3 hn
      rcases hab with ⟨ha, hb⟩ | ⟨ha, hb⟩
      all_goals
        first | (have da : decide (a < 0) = true := decide_eq_true ha) | (have da : decide (a < 0) = false := decide_eq_false ha)
        first | (have db : decide (b < 0) = true := decide_eq_true hb) | (have db : decide (b < 0) = false := decide_eq_false hb)
        go_wp2_with fail
        have SG : Hid (∀ B', B' = false → Calls Tryd.prog 55 #[.bool B', vq] w4 fun e w' => e = .returned (.tuple #[.int .i64 V, .bool K]) ∧ w' = w4) := by
          intro B' hB'; subst hB'; rw [← N1.out, ← N2.out]; exact signedBy_any false Q vq q4 w4 r4' l4 u4 v4
        refine (SG.out _ (by simp; try omega)).mono ?_
        rintro e w6 ⟨rfl, hw⟩; rw [hw]; clear hw w6
        clear SG
        cases K
        · obtain ⟨z1, z2⟩ := K4.out rfl
          clear K4 N1 N2 N3
          subst z1 z2
          go_wp2_with fail
          go_ret3
          exact ⟨rfl, bb4⟩
        · have z3 := N3.out rfl
          clear K4 N1 N2 N3
          have Z3 : Hid (S = _) := z3
          clear z3
          go_wp2_with fail
          go_ret3
          exact ⟨FIN.out rfl (by have := Z3.out; have := CC.out; omega) rfl, bb4⟩
    · by_cases hr0 : R = 0
      · obtain ⟨k1, k2, k3⟩ := FE.out hn hr0
        have N1 : Hid (sgOk true Q = K) := k1.symm
        have N2 : Hid (sgV true Q = V) := k2.symm
        have N3 : Hid (K = true → S = 0) := k3
        clear k1 k2 k3 hn
        rcases hab with ⟨ha, hb⟩ | ⟨ha, hb⟩
        all_goals
          first | (have da : decide (a < 0) = true := decide_eq_true ha) | (have da : decide (a < 0) = false := decide_eq_false ha)
          first | (have db : decide (b < 0) = true := decide_eq_true hb) | (have db : decide (b < 0) = false := decide_eq_false hb)
          have rz : (R : Int) = 0 := by omega
          go_wp2_with fail
          have SG : Hid (∀ B', B' = true → Calls Tryd.prog 55 #[.bool B', vq] w4 fun e w' => e = .returned (.tuple #[.int .i64 V, .bool K]) ∧ w' = w4) := by
            intro B' hB'; subst hB'; rw [← N1.out, ← N2.out]; exact signedBy_any true Q vq q4 w4 r4' l4 u4 v4
          refine (SG.out _ (by simp; try omega)).mono ?_
          rintro e w6 ⟨rfl, hw⟩; rw [hw]; clear hw w6
          clear SG
          cases K
          · obtain ⟨z1, z2⟩ := K4.out rfl
            clear K4 N1 N2 N3
            subst z1 z2
            go_wp2_with fail
            go_ret3
            exact ⟨rfl, bb4⟩
          · have z3 := N3.out rfl
            clear K4 N1 N2 N3
            have Z3 : Hid (S = _) := z3
            clear z3
            go_wp2_with fail
            go_ret3
            exact ⟨FIN.out rfl (by have := Z3.out; have := CC.out; omega) rfl, bb4⟩
      · have hr0 : 0 < R := by omega
        obtain ⟨k1, k2, k3⟩ := FD.out hn hr0
        have N1 : Hid (sgOk true (Q + 1) = K) := k1.symm
        have N2 : Hid (sgV true (Q + 1) = V) := k2.symm
        have N3 : Hid (K = true → S = c - (R : Int)) := k3
        clear k1 k2 k3 hn
        rcases hab with ⟨ha, hb⟩ | ⟨ha, hb⟩
        all_goals
          first | (have da : decide (a < 0) = true := decide_eq_true ha) | (have da : decide (a < 0) = false := decide_eq_false ha)
          first | (have db : decide (b < 0) = true := decide_eq_true hb) | (have db : decide (b < 0) = false := decide_eq_false hb)
          have rp : (0 : Int) < (R : Int) := by omega
          go_wp2_with fail
          refine (greater_any Q Q1 vq q4 _ r4' l4 u4 v4).mono ?_
          rintro e w5 ⟨vq5, rfl, q5, r5, l5, u5, v5, b5⟩
          have bb5 := below2 bb4 b5
          have r5' := r5.mono (Nat.zero_le _)
          clear r4' l4 u4 v4 bb4 b5 r5
          go_wp2_with fail
          have SG : Hid (∀ B', B' = true → Calls Tryd.prog 55 #[.bool B', vq5] w5 fun e w' => e = .returned (.tuple #[.int .i64 V, .bool K]) ∧ w' = w5) := by
            intro B' hB'; subst hB'; rw [← N1.out, ← N2.out]; exact signedBy_any true (Q + 1) vq5 q5 w5 r5' l5 u5 v5
          refine (SG.out _ (by simp; try omega)).mono ?_
          rintro e w6 ⟨rfl, hw⟩; rw [hw]; clear hw w6
          clear SG
          cases K
          · obtain ⟨z1, z2⟩ := K4.out rfl
            clear K4 N1 N2 N3
            subst z1 z2
            go_wp2_with fail
            go_ret3
            exact ⟨rfl, bb5⟩
          · have z3 := N3.out rfl
            clear K4 N1 N2 N3
            have Z3 : Hid (S = _) := z3
            clear z3
            go_wp2_with fail
            go_ret3
            exact ⟨FIN.out rfl (by have := Z3.out; have := CC.out; omega) rfl, bb5⟩

end Go.Proofs.YtfdahdloihgjeacDoor
