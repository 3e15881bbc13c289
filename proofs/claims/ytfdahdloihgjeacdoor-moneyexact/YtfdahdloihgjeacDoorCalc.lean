/-
  Ours: the contract of money.MulDivFloor.
-/
import Derived.Test.YtfdahdloihgjeacDoorCalcD
namespace Go.Proofs.YtfdahdloihgjeacDoor
open Go.RowKit

/-- The floor of a * b / c: does it fit? -/
def flOk (a b c : Int) : Bool := decide (0 < c ∧ -9223372036854775808 ≤ a * b / c ∧ a * b / c ≤ 9223372036854775807)
def flQ (a b c : Int) : Int := if flOk a b c then a * b / c else 0
def flR (a b c : Int) : Int := if flOk a b c then a * b % c else 0

theorem flR_bound (a b c : Int) : 0 ≤ flR a b c ∧ (flOk a b c = true → flR a b c < c) := by
  unfold flR flOk
  split
  · rename_i h
    rw [decide_eq_true_iff] at h
    exact ⟨Int.emod_nonneg _ (by omega), fun _ => Int.emod_lt_of_pos _ h.1⟩
  · exact ⟨by omega, fun h => absurd h (by assumption)⟩

namespace Floor
/-- Refused by the sizes: refused. -/
theorem no {a b c : Int} (c0 : 0 < c) (h : dvOk (a.natAbs * b.natAbs) c.natAbs = false) : flOk a b c = false := by
  obtain ⟨C, rfl⟩ := Int.eq_ofNat_of_zero_le (Int.le_of_lt c0)
  rw [Int.natAbs_natCast] at h
  have hC : 0 < C := by omega
  have hq : 9223372036854775808 < a.natAbs * b.natAbs / C := by
    simp only [dvOk, decide_eq_false_iff_not] at h
    omega
  unfold flOk
  rw [decide_eq_false_iff_not, Signs.prod]
  rintro ⟨_, h1, h2⟩
  generalize a.natAbs * b.natAbs = P at *
  split at h1
  · rename_i hn
    rw [if_pos hn] at h2
    by_cases hr : P % C = 0
    · rw [(Signs.floor_even P C hC hr).1] at h1; omega
    · rw [(Signs.floor_down P C hC (by omega)).1] at h1; omega
  · rename_i hn
    rw [if_neg hn] at h2
    rw [(Signs.floor_up P C).1] at h2; omega

theorem up {a b c : Int} (c0 : 0 < c) (hn : Signs.neg2 a b = false) (h : dvOk (a.natAbs * b.natAbs) c.natAbs = true) :
    flOk a b c = sgOk false (dvQ (a.natAbs * b.natAbs) c.natAbs) ∧ flQ a b c = sgV false (dvQ (a.natAbs * b.natAbs) c.natAbs) ∧ (flOk a b c = true → flR a b c = (dvR (a.natAbs * b.natAbs) c.natAbs : Int)) := by
  obtain ⟨C, rfl⟩ := Int.eq_ofNat_of_zero_le (Int.le_of_lt c0)
  rw [Int.natAbs_natCast] at *
  have e := Signs.prod a b
  rw [hn] at e
  simp only [Bool.false_eq_true, if_false] at e
  generalize a.natAbs * b.natAbs = P at *
  obtain ⟨f1, f2⟩ := Signs.floor_up P C
  have k : flOk a b C = sgOk false (dvQ P C) := by
    simp only [flOk, sgOk, e, f1, dvQ, h, if_true, Bool.false_eq_true, if_false]
    rw [decide_eq_decide]
    generalize P / C = z
    omega
  refine ⟨k, ?_, ?_⟩
  · unfold flQ sgV
    rw [k, e, f1]
    simp only [dvQ, h, if_true, Bool.false_eq_true, if_false]
  · intro hk
    unfold flR
    rw [hk, e, f2]
    simp only [dvR, h, if_true]

theorem even {a b c : Int} (c0 : 0 < c) (hn : Signs.neg2 a b = true) (h : dvOk (a.natAbs * b.natAbs) c.natAbs = true) (hr : dvR (a.natAbs * b.natAbs) c.natAbs = 0) :
    flOk a b c = sgOk true (dvQ (a.natAbs * b.natAbs) c.natAbs) ∧ flQ a b c = sgV true (dvQ (a.natAbs * b.natAbs) c.natAbs) ∧ (flOk a b c = true → flR a b c = 0) := by
  obtain ⟨C, rfl⟩ := Int.eq_ofNat_of_zero_le (Int.le_of_lt c0)
  rw [Int.natAbs_natCast] at *
  have e := Signs.prod a b
  rw [hn] at e
  simp only [if_true] at e
  generalize a.natAbs * b.natAbs = P at *
  have hr' : P % C = 0 := by simpa [dvR, h] using hr
  obtain ⟨f1, f2⟩ := Signs.floor_even P C (by omega) hr'
  have k : flOk a b C = sgOk true (dvQ P C) := by
    simp only [flOk, sgOk, e, f1, dvQ, h, if_true]
    rw [decide_eq_decide]
    generalize P / C = z
    omega
  refine ⟨k, ?_, ?_⟩
  · unfold flQ sgV
    rw [k, e, f1]
    simp only [dvQ, h, if_true]
  · intro hk
    unfold flR
    rw [hk, e, f2]
    simp

theorem down {a b c : Int} (c0 : 0 < c) (hn : Signs.neg2 a b = true) (h : dvOk (a.natAbs * b.natAbs) c.natAbs = true) (hr : 0 < dvR (a.natAbs * b.natAbs) c.natAbs) :
    flOk a b c = sgOk true (dvQ (a.natAbs * b.natAbs) c.natAbs + 1) ∧ flQ a b c = sgV true (dvQ (a.natAbs * b.natAbs) c.natAbs + 1) ∧ (flOk a b c = true → flR a b c = c - (dvR (a.natAbs * b.natAbs) c.natAbs : Int)) := by
  obtain ⟨C, rfl⟩ := Int.eq_ofNat_of_zero_le (Int.le_of_lt c0)
  rw [Int.natAbs_natCast] at *
  have e := Signs.prod a b
  rw [hn] at e
  simp only [if_true] at e
  generalize a.natAbs * b.natAbs = P at *
  have hr' : 0 < P % C := by simpa [dvR, h] using hr
  have l := Nat.mod_lt P (show 0 < C by omega)
  obtain ⟨f1, f2⟩ := Signs.floor_down P C (by omega) hr'
  have k : flOk a b C = sgOk true (dvQ P C + 1) := by
    simp only [flOk, sgOk, e, f1, dvQ, h, if_true]
    rw [decide_eq_decide]
    generalize P / C = z
    omega
  refine ⟨k, ?_, ?_⟩
  · unfold flQ sgV
    rw [k, e, f1]
    simp only [dvQ, h, if_true]
  · intro hk
    unfold flR
    rw [hk, e, f2]
    simp only [dvR, h, if_true]
    omega
end Floor


set_option maxHeartbeats 1000000 in
theorem floor_any (a b c : Int) (a0 : -9223372036854775808 ≤ a) (a1 : a ≤ 9223372036854775807) (b0 : -9223372036854775808 ≤ b) (b1 : b ≤ 9223372036854775807) (c0 : -9223372036854775808 ≤ c) (c1 : c ≤ 9223372036854775807) (w : World) :
    Calls Tryd.prog 28 #[.int .i64 a, .int .i64 b, .int .i64 c] w fun e w' =>
      e = .returned (.tuple #[.int .i64 (flQ a b c), .int .i64 (flR a b c), .bool (flOk a b c)]) ∧ ∃ n, w' = w.drewN n := by
  by_cases hc : c ≤ 0
  · have e1 : flOk a b c = false := by simp [flOk]; omega
    have e2 : flQ a b c = 0 := by simp [flQ, e1]
    have e3 : flR a b c = 0 := by simp [flR, e1]
    rw [e1, e2, e3]
    clear e1 e2 e3
    go_enter Tryd.func28, Tryd.ntmps28
    go_wp2_with fail
    go_ret3
    exact ⟨rfl, 0, rfl⟩
  · have D := fun w => divide_any a b c a0 a1 b0 b1 c0 c1 w
    obtain ⟨Q, hQ⟩ : ∃ Q, dvQ (a.natAbs * b.natAbs) c.natAbs = Q := ⟨_, rfl⟩
    obtain ⟨R, hR⟩ : ∃ R, dvR (a.natAbs * b.natAbs) c.natAbs = R := ⟨_, rfl⟩
    have hc' : 0 < c := by omega
    cases hk : dvOk (a.natAbs * b.natAbs) c.natAbs
    · have e1 : flOk a b c = false := Floor.no hc' hk
      have e2 : flQ a b c = 0 := by simp [flQ, e1]
      have e3 : flR a b c = 0 := by simp [flR, e1]
      rw [hk, hQ, hR] at D
      rw [e1, e2, e3]
      have DD : Hid (∀ w, Calls Tryd.prog 56 #[.int .i64 a, .int .i64 b, .int .i64 c] w fun e w' => e = .returned (.tuple #[.int .u64 (Q : Int), .int .u64 (R : Int), .bool false]) ∧ ∃ n, w' = w.drewN n) := D
      clear e1 e2 e3 D hk hQ hR
      go_enter Tryd.func28, Tryd.ntmps28
      go_wp2_with fail
      refine (DD.out _).mono ?_
      rintro e w1 ⟨rfl, n, hw⟩; rw [hw]; clear hw w1
      go_wp2_with fail
      go_ret3
      exact ⟨rfl, _, rfl⟩
    · have Q1 : Q ≤ 9223372036854775808 := by
        have h := hk
        simp only [dvOk, decide_eq_true_iff] at h
        rw [← hQ, dvQ, hk, if_pos rfl]; exact h.2
      have R1 : (R : Int) < c := by
        rw [← hR, dvR, hk, if_pos rfl]
        have : (a.natAbs * b.natAbs) % c.natAbs < c.natAbs := Nat.mod_lt _ (by omega)
        generalize a.natAbs * b.natAbs % c.natAbs = z at *
        omega
      have SC : Hid (∀ w, Calls Tryd.prog 50 #[.int .i64 c] w fun e w' => e = .returned (.int .u64 c) ∧ w' = w) :=
        fun w => (size_any c c0 c1 w).mono fun e w' ⟨he, hw⟩ => ⟨by rw [he]; exact ret_int (by omega), hw⟩
      cases hn : Signs.neg2 a b
      · obtain ⟨k1, k2, k3⟩ := Floor.up hc' hn hk
        rw [hk, hQ, hR] at D
        rw [hQ] at k1 k2
        rw [hR] at k3
        have DD : Hid (∀ w, Calls Tryd.prog 56 #[.int .i64 a, .int .i64 b, .int .i64 c] w fun e w' => e = .returned (.tuple #[.int .u64 (Q : Int), .int .u64 (R : Int), .bool true]) ∧ ∃ n, w' = w.drewN n) := D
        have SS : Hid (∀ w B, B = false → Calls Tryd.prog 51 #[.int .u64 (Q : Int), .bool B] w fun e w' => e = .returned (.tuple #[.int .i64 (flQ a b c), .bool (flOk a b c)]) ∧ w' = w) :=
          fun w B hB => hB ▸ (signed_any Q false (by omega) (by omega) w).mono fun e w' ⟨he, hw⟩ => ⟨by rw [he, k1, k2, Int.toNat_natCast], hw⟩
        have k4 : flOk a b c = false → flQ a b c = 0 ∧ flR a b c = 0 := fun h => by simp [flQ, flR, h]
        generalize flQ a b c = V at *
        generalize flR a b c = S at *
        generalize flOk a b c = K at *
        clear D k1 k2 hk hQ hR
        by_cases ha : a < 0
        all_goals
          first
            | (have hb : b < 0 := (by simpa [Signs.neg2, ha] using hn); have db : decide (b < 0) = true := decide_eq_true hb)
            | (have hb : ¬ b < 0 := (by simpa [Signs.neg2, ha] using hn); have db : decide (b < 0) = false := decide_eq_false hb)
          first | (have da : decide (a < 0) = true := decide_eq_true ha) | (have da : decide (a < 0) = false := decide_eq_false ha)
          clear hn
          cases K
          · obtain ⟨rfl, rfl⟩ := k4 rfl
            clear k3 k4
            go_enter Tryd.func28, Tryd.ntmps28
            go_wp2_with fail
            refine (DD.out _).mono ?_
            rintro e w1 ⟨rfl, n, hw⟩; rw [hw]; clear hw w1
            go_wp2_with fail
            refine (SS.out _ _ (by simp; try omega)).mono ?_
            rintro e w1 ⟨rfl, hw⟩; rw [hw]; clear hw w1
            go_wp2_with fail
            go_ret3
            exact ⟨rfl, _, rfl⟩
          · obtain rfl := k3 rfl
            clear k3 k4
            go_enter Tryd.func28, Tryd.ntmps28
            go_wp2_with fail
            refine (DD.out _).mono ?_
            rintro e w1 ⟨rfl, n, hw⟩; rw [hw]; clear hw w1
            go_wp2_with fail
            refine (SS.out _ _ (by simp; try omega)).mono ?_
            rintro e w1 ⟨rfl, hw⟩; rw [hw]; clear hw w1
            go_wp2_with fail
            go_ret3
            exact ⟨rfl, _, rfl⟩
      · by_cases hr : R = 0
        · obtain ⟨k1, k2, k3⟩ := Floor.even hc' hn hk (by rw [hR]; exact hr)
          rw [hk, hQ, hR] at D
          rw [hQ] at k1 k2
          subst hr
          have DD : Hid (∀ w, Calls Tryd.prog 56 #[.int .i64 a, .int .i64 b, .int .i64 c] w fun e w' => e = .returned (.tuple #[.int .u64 (Q : Int), .int .u64 0, .bool true]) ∧ ∃ n, w' = w.drewN n) := D
          have SS : Hid (∀ w B, B = true → Calls Tryd.prog 51 #[.int .u64 (Q : Int), .bool B] w fun e w' => e = .returned (.tuple #[.int .i64 (flQ a b c), .bool (flOk a b c)]) ∧ w' = w) :=
            fun w B hB => hB ▸ (signed_any Q true (by omega) (by omega) w).mono fun e w' ⟨he, hw⟩ => ⟨by rw [he, k1, k2, Int.toNat_natCast], hw⟩
          have k4 : flOk a b c = false → flQ a b c = 0 ∧ flR a b c = 0 := fun h => by simp [flQ, flR, h]
          generalize flQ a b c = V at *
          generalize flR a b c = S at *
          generalize flOk a b c = K at *
          clear D k1 k2 hk hQ hR
          by_cases ha : a < 0
          all_goals
            first
              | (have hb : ¬ b < 0 := (by simpa [Signs.neg2, ha] using hn); have db : decide (b < 0) = false := decide_eq_false hb)
              | (have hb : b < 0 := (by simpa [Signs.neg2, ha] using hn); have db : decide (b < 0) = true := decide_eq_true hb)
            first | (have da : decide (a < 0) = true := decide_eq_true ha) | (have da : decide (a < 0) = false := decide_eq_false ha)
            clear hn
            cases K
            · obtain ⟨rfl, rfl⟩ := k4 rfl
              clear k3 k4
              go_enter Tryd.func28, Tryd.ntmps28
              go_wp2_with fail
              refine (DD.out _).mono ?_
              rintro e w1 ⟨rfl, n, hw⟩; rw [hw]; clear hw w1
              go_wp2_with fail
              refine (SS.out _ _ (by simp; try omega)).mono ?_
              rintro e w1 ⟨rfl, hw⟩; rw [hw]; clear hw w1
              go_wp2_with fail
              go_ret3
              exact ⟨rfl, _, rfl⟩
            · obtain rfl := k3 rfl
              clear k3 k4
              go_enter Tryd.func28, Tryd.ntmps28
              go_wp2_with fail
              refine (DD.out _).mono ?_
              rintro e w1 ⟨rfl, n, hw⟩; rw [hw]; clear hw w1
              go_wp2_with fail
              refine (SS.out _ _ (by simp; try omega)).mono ?_
              rintro e w1 ⟨rfl, hw⟩; rw [hw]; clear hw w1
              go_wp2_with fail
              go_ret3
              exact ⟨rfl, _, rfl⟩
        · obtain ⟨k1, k2, k3⟩ := Floor.down hc' hn hk (by rw [hR]; omega)
          rw [hk, hQ, hR] at D
          rw [hQ] at k1 k2
          rw [hR] at k3
          have hr' : (0 : Int) < (R : Int) := by omega
          have DD : Hid (∀ w, Calls Tryd.prog 56 #[.int .i64 a, .int .i64 b, .int .i64 c] w fun e w' => e = .returned (.tuple #[.int .u64 (Q : Int), .int .u64 (R : Int), .bool true]) ∧ ∃ n, w' = w.drewN n) := D
          have SS : Hid (∀ w B, B = true → Calls Tryd.prog 51 #[.int .u64 ((Q : Int) + 1), .bool B] w fun e w' => e = .returned (.tuple #[.int .i64 (flQ a b c), .bool (flOk a b c)]) ∧ w' = w) :=
            fun w B hB => hB ▸ (signed_any ((Q : Int) + 1) true (by omega) (by omega) w).mono fun e w' ⟨he, hw⟩ => ⟨by rw [he, k1, k2, show ((Q : Int) + 1).toNat = Q + 1 from by omega], hw⟩
          have k4 : flOk a b c = false → flQ a b c = 0 ∧ flR a b c = 0 := fun h => by simp [flQ, flR, h]
          generalize flQ a b c = V at *
          generalize flR a b c = S at *
          generalize flOk a b c = K at *
          clear D k1 k2 hk hQ hR hr
          by_cases ha : a < 0
          all_goals
            first
              | (have hb : ¬ b < 0 := (by simpa [Signs.neg2, ha] using hn); have db : decide (b < 0) = false := decide_eq_false hb)
              | (have hb : b < 0 := (by simpa [Signs.neg2, ha] using hn); have db : decide (b < 0) = true := decide_eq_true hb)
            first | (have da : decide (a < 0) = true := decide_eq_true ha) | (have da : decide (a < 0) = false := decide_eq_false ha)
            clear hn
            cases K
            · obtain ⟨rfl, rfl⟩ := k4 rfl
              clear k3 k4
              go_enter Tryd.func28, Tryd.ntmps28
              go_wp2_with fail
              refine (DD.out _).mono ?_
              rintro e w1 ⟨rfl, n, hw⟩; rw [hw]; clear hw w1
              go_wp2_with fail
              refine (SC.out _).mono ?_
              rintro e w1 ⟨rfl, hw⟩; rw [hw]; clear hw w1
              go_wp2_with fail
              refine (SS.out _ _ (by simp; try omega)).mono ?_
              rintro e w1 ⟨rfl, hw⟩; rw [hw]; clear hw w1
              go_wp2_with fail
              go_ret3
              exact ⟨rfl, _, rfl⟩
            · obtain rfl := k3 rfl
              clear k3 k4
              go_enter Tryd.func28, Tryd.ntmps28
              go_wp2_with fail
              refine (DD.out _).mono ?_
              rintro e w1 ⟨rfl, n, hw⟩; rw [hw]; clear hw w1
              go_wp2_with fail
              refine (SC.out _).mono ?_
              rintro e w1 ⟨rfl, hw⟩; rw [hw]; clear hw w1
              go_wp2_with fail
              refine (SS.out _ _ (by simp; try omega)).mono ?_
              rintro e w1 ⟨rfl, hw⟩; rw [hw]; clear hw w1
              go_wp2_with fail
              go_ret3
              exact ⟨rfl, _, rfl⟩

end Go.Proofs.YtfdahdloihgjeacDoor
