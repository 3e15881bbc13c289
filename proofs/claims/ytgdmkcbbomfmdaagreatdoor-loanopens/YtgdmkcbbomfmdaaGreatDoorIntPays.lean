/-
  Ours: the contracts of interest.isCount, interest.paysOff, the closure of Level, interest.least, interest.Level.
-/
import Derived.Test.YtgdmkcbbomfmdaaGreatDoorCalcD
import Derived.Test.YtgdmkcbbomfmdaaGreatDoorDiv64
import Derived.Test.YtgdmkcbbomfmdaaGreatDoorIntMath
import Derived.Laws.NewBlocks
namespace Go.Proofs.YtgdmkcbbomfmdaaGreatDoor
open Go.RowKit

/-- Is the rounding upward? (The rest beyond the half, or just the half and the quotient odd.) -/
def upB (P C : Nat) : Bool := decide (C - P % C < P % C ∨ (P % C = C - P % C ∧ P / C % 2 = 1))
/-- The sizes' fraction to the nearest whole number, a half to the even one. -/
def rnd (P C : Nat) : Nat := if upB P C then P / C + 1 else P / C
def neg3 (a b c : Int) : Bool := Signs.neg2 a b != decide (c < 0)
def mdOk (a b c : Int) : Bool := decide (0 < c.natAbs) && sgOk (neg3 a b c) (rnd (a.natAbs * b.natAbs) c.natAbs)
def mdV (a b c : Int) : Int := if mdOk a b c then sgV (neg3 a b c) (rnd (a.natAbs * b.natAbs) c.natAbs) else 0

theorem md_no {a b c : Int} (h : dvOk (a.natAbs * b.natAbs) c.natAbs = false) : mdOk a b c = false := by
  unfold mdOk
  by_cases hc : 0 < c.natAbs
  · have hq : 9223372036854775808 < a.natAbs * b.natAbs / c.natAbs := by
      simp only [dvOk, decide_eq_false_iff_not] at h
      omega
    have hr : 9223372036854775808 < rnd (a.natAbs * b.natAbs) c.natAbs := by unfold rnd; split <;> omega
    simp only [hc, decide_true, Bool.true_and]
    generalize rnd (a.natAbs * b.natAbs) c.natAbs = z at *
    unfold sgOk
    split <;> simp <;> omega
  · simp [hc]
theorem md_yes {a b c : Int} (h : dvOk (a.natAbs * b.natAbs) c.natAbs = true) :
    mdOk a b c = sgOk (neg3 a b c) (rnd (a.natAbs * b.natAbs) c.natAbs) ∧ mdV a b c = sgV (neg3 a b c) (rnd (a.natAbs * b.natAbs) c.natAbs) := by
  have hc : 0 < c.natAbs := by simp only [dvOk, decide_eq_true_iff] at h; exact h.1
  have e : mdOk a b c = sgOk (neg3 a b c) (rnd (a.natAbs * b.natAbs) c.natAbs) := by simp [mdOk, hc]
  refine ⟨e, ?_⟩
  unfold mdV sgV
  rw [e]
  split
  · rfl
  · rfl

set_option maxHeartbeats 1000000 in
theorem near_any (a b c : Int) (a0 : -9223372036854775808 ≤ a) (a1 : a ≤ 9223372036854775807) (b0 : -9223372036854775808 ≤ b) (b1 : b ≤ 9223372036854775807) (c0 : -9223372036854775808 ≤ c) (c1 : c ≤ 9223372036854775807) (w : World) :
    Calls Tryz.prog 110 #[.int .i64 a, .int .i64 b, .int .i64 c] w fun e w' =>
      e = .returned (.tuple #[.int .i64 (mdV a b c), .bool (mdOk a b c)]) ∧ ∃ n, w' = w.drewN n := by
  have D := fun w => divide_any a b c a0 a1 b0 b1 c0 c1 w
  obtain ⟨Q, hQ⟩ : ∃ Q, dvQ (a.natAbs * b.natAbs) c.natAbs = Q := ⟨_, rfl⟩
  obtain ⟨R, hR⟩ : ∃ R, dvR (a.natAbs * b.natAbs) c.natAbs = R := ⟨_, rfl⟩
  cases hk : dvOk (a.natAbs * b.natAbs) c.natAbs
  · have e1 : mdOk a b c = false := md_no hk
    have e2 : mdV a b c = 0 := by simp [mdV, e1]
    rw [hk, hQ, hR] at D
    rw [e1, e2]
    have DD : Hid (∀ w, Calls Tryz.prog 126 #[.int .i64 a, .int .i64 b, .int .i64 c] w fun e w' => e = .returned (.tuple #[.int .u64 (Q : Int), .int .u64 (R : Int), .bool false]) ∧ ∃ n, w' = w.drewN n) := D
    clear e1 e2 D hk hQ hR
    go_enter Tryz.func110, Tryz.ntmps110
    go_wp2_with fail
    refine (DD.out _).mono ?_
    rintro e w1 ⟨rfl, n, hw⟩; rw [hw]; clear hw w1
    go_wp2_with fail
    go_ret2
    exact ⟨rfl, _, rfl⟩
  · obtain ⟨k1, k2⟩ := md_yes hk
    have hq : a.natAbs * b.natAbs / c.natAbs = Q := by rw [← hQ, dvQ, hk, if_pos rfl]
    have hr : a.natAbs * b.natAbs % c.natAbs = R := by rw [← hR, dvR, hk, if_pos rfl]
    have Q1 : Q ≤ 9223372036854775808 := by
      have h := hk
      simp only [dvOk, decide_eq_true_iff] at h
      rw [← hq]; exact h.2
    have R1 : R < c.natAbs := by
      rw [← hr]
      refine Nat.mod_lt _ ?_
      have h := hk
      simp only [dvOk, decide_eq_true_iff] at h
      exact h.1
    rw [hk, hQ, hR] at D
    have hrn : rnd (a.natAbs * b.natAbs) c.natAbs = if decide (c.natAbs - R < R ∨ (R = c.natAbs - R ∧ Q % 2 = 1)) then Q + 1 else Q := by
      unfold rnd upB; rw [hq, hr]
    rw [hrn] at k1 k2
    rw [k1, k2]
    have sc := fun w => size_any c c0 c1 w
    obtain ⟨C, hC⟩ : ∃ C, c.natAbs = C := ⟨_, rfl⟩
    rw [hC] at R1 sc ⊢
    have C1 : C ≤ 9223372036854775808 := by omega
    have DD : Hid (∀ w, Calls Tryz.prog 126 #[.int .i64 a, .int .i64 b, .int .i64 c] w fun e w' => e = .returned (.tuple #[.int .u64 (Q : Int), .int .u64 (R : Int), .bool true]) ∧ ∃ n, w' = w.drewN n) := D
    have SC : Hid (∀ w, Calls Tryz.prog 127 #[.int .i64 c] w fun e w' => e = .returned (.int .u64 (C : Int)) ∧ w' = w) := sc
    have SS : Hid (∀ w (m : Int) B, B = neg3 a b c → 0 ≤ m → m < 18446744073709551616 → Calls Tryz.prog 128 #[.int .u64 m, .bool B] w fun e w' => e = .returned (.tuple #[.int .i64 (sgV (neg3 a b c) m.toNat), .bool (sgOk (neg3 a b c) m.toNat)]) ∧ w' = w) :=
      fun w m B hB h0 h1 => by subst hB; exact signed_any m (neg3 a b c) h0 h1 w
    clear D k1 k2 hk hQ hR hq hr hrn hC sc
    by_cases u : C - R < R ∨ (R = C - R ∧ Q % 2 = 1)
    · simp only [u, decide_true, if_true]
      rcases u with u | ⟨u, v⟩
      · have u' : (C : Int) - (R : Int) < R := by omega
        go_enter Tryz.func110, Tryz.ntmps110
        go_wp2_with fail
        refine (DD.out _).mono ?_
        rintro e w1 ⟨rfl, n, hw⟩; rw [hw]; clear hw w1
        go_wp2_with fail
        refine (SC.out _).mono ?_
        rintro e w1 ⟨rfl, hw⟩; rw [hw]; clear hw w1
        go_wp2_with fail
        refine (SS.out _ _ _ rfl (by omega) (by omega)).mono ?_
        rintro e w1 ⟨rfl, hw⟩; rw [hw]; clear hw w1
        go_wp2_with fail
        go_ret2
        exact ⟨rfl, _, rfl⟩
      · have u' : ((R : Int) == (C : Int) - (R : Int)) = true := by simp; omega
        have u'' : ¬ (C : Int) - (R : Int) < R := by omega
        have v' : ((Q : Int) % 2 == 1) = true := by simp; omega
        clear u v
        go_enter Tryz.func110, Tryz.ntmps110
        go_wp2_with fail
        refine (DD.out _).mono ?_
        rintro e w1 ⟨rfl, n, hw⟩; rw [hw]; clear hw w1
        go_wp2_with fail
        refine (SC.out _).mono ?_
        rintro e w1 ⟨rfl, hw⟩; rw [hw]; clear hw w1
        go_wp2_with fail
        refine (SS.out _ _ _ rfl (by omega) (by omega)).mono ?_
        rintro e w1 ⟨rfl, hw⟩; rw [hw]; clear hw w1
        go_wp2_with fail
        go_ret2
        exact ⟨rfl, _, rfl⟩
    · simp only [u, decide_false, Bool.false_eq_true, if_false]
      have u'' : ¬ (C : Int) - (R : Int) < R := by omega
      have du : decide ((C : Int) - (R : Int) < R) = false := decide_eq_false u''
      by_cases e : R = C - R
      · have u' : ((R : Int) == (C : Int) - (R : Int)) = true := by simp; omega
        have v' : ((Q : Int) % 2 == 1) = false := by rw [beq_eq_false_iff_ne]; omega
        clear u e
        go_enter Tryz.func110, Tryz.ntmps110
        go_wp2_with fail
        refine (DD.out _).mono ?_
        rintro e w1 ⟨rfl, n, hw⟩; rw [hw]; clear hw w1
        go_wp2_with fail
        refine (SC.out _).mono ?_
        rintro e w1 ⟨rfl, hw⟩; rw [hw]; clear hw w1
        go_wp2_with fail
        refine (SS.out _ _ _ rfl (by omega) (by omega)).mono ?_
        rintro e w1 ⟨rfl, hw⟩; rw [hw]; clear hw w1
        go_wp2_with fail
        go_ret2
        exact ⟨rfl, _, rfl⟩
      · have u' : ((R : Int) == (C : Int) - (R : Int)) = false := by rw [beq_eq_false_iff_ne]; omega
        clear u e
        go_enter Tryz.func110, Tryz.ntmps110
        go_wp2_with fail
        refine (DD.out _).mono ?_
        rintro e w1 ⟨rfl, n, hw⟩; rw [hw]; clear hw w1
        go_wp2_with fail
        refine (SC.out _).mono ?_
        rintro e w1 ⟨rfl, hw⟩; rw [hw]; clear hw w1
        go_wp2_with fail
        refine (SS.out _ _ _ rfl (by omega) (by omega)).mono ?_
        rintro e w1 ⟨rfl, hw⟩; rw [hw]; clear hw w1
        go_wp2_with fail
        go_ret2
        exact ⟨rfl, _, rfl⟩

end Go.Proofs.YtgdmkcbbomfmdaaGreatDoor

namespace Go.Proofs.YtgdmkcbbomfmdaaGreatDoor
open Go.RowKit

theorem ret_boolI {a b : Bool} (h : a = b) : Ending.returned (.bool a) = .returned (.bool b) := by rw [h]

def rateB (x : Int) : Bool := decide (0 ≤ x ∧ x ≤ 100000)

theorem isRate_at (x : Int) (b : Bool) (h : rateB x = b) (w : World) :
    Calls Tryz.prog 104 #[.int .i64 x] w fun e w' => e = .returned (.bool b) ∧ w' = w := by
  subst h
  by_cases h : 0 ≤ x
  · by_cases h' : x ≤ 100000
    · have e : rateB x = true := by simp [rateB]; omega
      rw [e]; clear e
      go_enter Tryz.func104, Tryz.ntmps104
      go_wp2
      go_ret
      exact ⟨rfl, rfl⟩
    · have e : rateB x = false := by simp [rateB]; omega
      rw [e]; clear e
      go_enter Tryz.func104, Tryz.ntmps104
      go_wp2
      go_ret
      exact ⟨rfl, rfl⟩
  · have e : rateB x = false := by simp [rateB]; omega
    rw [e]; clear e
    go_enter Tryz.func104, Tryz.ntmps104
    go_wp2
    go_ret
    exact ⟨rfl, rfl⟩

end Go.Proofs.YtgdmkcbbomfmdaaGreatDoor

namespace Go.Proofs.YtgdmkcbbomfmdaaGreatDoor
open Go.RowKit IntM

theorem md_mon {b r : Int} (b0 : 0 ≤ b) (b1 : b ≤ 9223372036854775807) (r0 : 0 ≤ r) (r1 : r ≤ 100000) : mdOk b r 120000 = true ∧ mdV b r 120000 = mon b r := by
  obtain ⟨B, rfl⟩ := Int.eq_ofNat_of_zero_le b0
  obtain ⟨R, rfl⟩ := Int.eq_ofNat_of_zero_le r0
  have hm := mon_le (r := (R : Int)) (by omega : (0 : Int) ≤ (B : Int)) r1
  have e : ((rnd (B * R) 120000 : Nat) : Int) = mon B R := by
    unfold rnd upB mon rd
    rw [← Int.natCast_mul]
    generalize B * R = P
    by_cases h : 120000 - P % 120000 < P % 120000 ∨ P % 120000 = 120000 - P % 120000 ∧ P / 120000 % 2 = 1
    · rw [decide_eq_true h, if_pos rfl, if_pos (by omega)]; omega
    · rw [decide_eq_false h, if_neg (by decide), if_neg (by omega)]; omega
  have n3 : neg3 (B : Int) (R : Int) 120000 = false := by
    unfold neg3 Signs.neg2
    rw [decide_eq_false (by omega : ¬ (B : Int) < 0), decide_eq_false (by omega : ¬ (R : Int) < 0)]; rfl
  have k : mdOk (B : Int) (R : Int) 120000 = true := by
    unfold mdOk
    rw [n3]
    simp only [Int.natAbs_natCast]
    show (decide (0 < 120000) && sgOk false (rnd (B * R) 120000)) = true
    have : sgOk false (rnd (B * R) 120000) = true := by unfold sgOk; simp; omega
    rw [this]; rfl
  refine ⟨k, ?_⟩
  have k2 := k
  unfold mdOk at k2
  rw [n3] at k2
  simp only [Int.natAbs_natCast, Bool.and_eq_true] at k2
  unfold mdV
  rw [k, if_pos rfl, n3]
  unfold sgV
  simp only [Int.natAbs_natCast]
  rw [if_pos k2.2]
  simpa using e

theorem month_at (b r : Int) (b0 : 0 ≤ b) (b1 : b ≤ 9223372036854775807) (r0 : 0 ≤ r) (r1 : r ≤ 100000) (w : World) :
    Calls Tryz.prog 82 #[.int .i64 b, .int .i64 r] w fun e w' => e = .returned (.tuple #[.int .i64 (mon b r), .bool true]) ∧ ∃ n, w' = w.drewN n := by
  have IR : Hid (∀ w, Calls Tryz.prog 104 #[.int .i64 r] w fun e w' => e = .returned (.bool true) ∧ w' = w) := fun w => isRate_at r true (decide_eq_true ⟨r0, r1⟩) w
  obtain ⟨k1, k2⟩ := md_mon b0 b1 r0 r1
  have N := fun w => near_any b r 120000 (by omega) b1 (by omega) (by omega) (by omega) (by omega) w
  rw [k1, k2] at N
  generalize mon b r = m at *
  have NN : Hid (∀ w, Calls Tryz.prog 110 #[.int .i64 b, .int .i64 r, .int .i64 120000] w fun e w' => e = .returned (.tuple #[.int .i64 m, .bool true]) ∧ ∃ n, w' = w.drewN n) := N
  clear N k1 k2
  go_enter Tryz.func82, Tryz.ntmps82
  go_wp2_with fail
  refine (IR.out _).mono ?_
  rintro e w1 ⟨rfl, hw⟩; rw [hw]; clear hw w1
  go_wp2_with fail
  refine (NN.out _).mono ?_
  rintro e w1 ⟨rfl, n, hw⟩; rw [hw]; clear hw w1
  go_wp2_with fail
  go_ret2
  exact ⟨rfl, _, rfl⟩

theorem month_no (b r : Int) (h : ¬ (0 ≤ b ∧ 0 ≤ r ∧ r ≤ 100000)) (w : World) :
    Calls Tryz.prog 82 #[.int .i64 b, .int .i64 r] w fun e w' => e = .returned (.tuple #[.int .i64 0, .bool false]) ∧ w' = w := by
  by_cases hb : 0 ≤ b
  · have IR : Hid (∀ w, Calls Tryz.prog 104 #[.int .i64 r] w fun e w' => e = .returned (.bool false) ∧ w' = w) := fun w => isRate_at r false (decide_eq_false (by omega)) w
    clear h
    go_enter Tryz.func82, Tryz.ntmps82
    go_wp2_with fail
    refine (IR.out _).mono ?_
    rintro e w1 ⟨rfl, hw⟩; rw [hw]; clear hw w1
    go_wp2_with fail
    go_ret2
    exact ⟨rfl, rfl⟩
  · clear h
    go_enter Tryz.func82, Tryz.ntmps82
    go_wp2_with fail
    go_ret2
    exact ⟨rfl, rfl⟩
end Go.Proofs.YtgdmkcbbomfmdaaGreatDoor

namespace Go.Proofs.YtgdmkcbbomfmdaaGreatDoor
open Go.RowKit IntM

def cntB (x : Int) : Bool := decide (1 ≤ x ∧ x ≤ 120)

theorem isCount_at (x : Int) (b : Bool) (h : cntB x = b) (w : World) :
    Calls Tryz.prog 105 #[.int .i64 x] w fun e w' => e = .returned (.bool b) ∧ w' = w := by
  subst h
  unfold cntB
  go_enter Tryz.func105, Tryz.ntmps105
  go_wp2_with fail
  all_goals
    go_ret
    refine ⟨ret_boolI ?_, rfl⟩
    rw [Bool.eq_iff_iff]
    simp
    try omega

set_option maxHeartbeats 2000000 in
theorem paysOff_at (b r p : Int) (n : Nat) (b0 : 0 ≤ b) (b1 : b ≤ 9223372036854775807) (r0 : 0 ≤ r) (r1 : r ≤ 100000) (p0 : 0 ≤ p) (p1 : p ≤ 9223372036854775807) (n1 : n ≤ 120) (w : World) :
    Calls Tryz.prog 125 #[.int .i64 b, .int .i64 r, .int .i64 (n : Int), .int .i64 p] w fun e w' => e = .returned (.bool (pays r p n b)) ∧ ∃ m, w' = w.drewN m := by
  go_enter Tryz.func125, Tryz.ntmps125
  go_wp2_with fail
  go_loopw [0, 13] (fun vb vk wr => ∃ (m k : Nat) (b' : Int), wr = w.drewN m ∧ vb = .int .i64 b' ∧ vk = .int .i64 (k : Int) ∧ k ≤ n ∧ 0 ≤ b' ∧ b' ≤ 9223372036854775807 ∧ Hid (pays r p n b = pays r p (n - k) b')) (fun _ vk _ => n - (intOf vk).toNat)
  case atStart => exact ⟨0, 0, b, rfl, rfl, rfl, by omega, b0, b1, rfl⟩
  case round =>
    obtain ⟨m, k, b', rfl, rfl, rfl, hk, c0, c1, hP⟩ := hrel
    by_cases hlt : (k : Int) < (n : Int)
    · obtain ⟨j, hj⟩ : ∃ j, n - k = j + 1 := ⟨n - k - 1, by omega⟩
      have hP' := hP.out
      rw [hj] at hP'
      clear hP
      have m0 := mon_nonneg c0 r0
      have m1 := mon_le c0 r1
      have hN := pays_never (r := r) (p := p) (b := b') j
      have hD := pays_done (r := r) (p := p) (b := b') j
      have hO := pays_on (r := r) (p := p) (b := b') j
      have MM : Hid (∀ w, Calls Tryz.prog 82 #[.int .i64 b', .int .i64 r] w fun e w' => e = .returned (.tuple #[.int .i64 (mon b' r), .bool true]) ∧ ∃ n, w' = w.drewN n) := fun w => month_at b' r c0 c1 r0 r1 w
      generalize mon b' r = i at *
      by_cases h1 : p - i ≤ 0
      · have hv := hP'.trans (hN h1)
        clear hN hD hO hP'
        go_wp2_with fail
        refine (MM.out _).mono ?_
        rintro e w1 ⟨rfl, x, hw⟩; rw [hw]; clear hw w1
        go_wp2_with fail
        go_ret
        exact ⟨ret_boolI hv.symm, m + x, by simp⟩
      · by_cases h2 : b' ≤ p - i
        · have hv := hP'.trans (hD h1 h2)
          clear hN hD hO hP'
          go_wp2_with fail
          refine (MM.out _).mono ?_
          rintro e w1 ⟨rfl, x, hw⟩; rw [hw]; clear hw w1
          go_wp2_with fail
          go_ret
          exact ⟨ret_boolI hv.symm, m + x, by simp⟩
        · have HH : Hid (pays r p n b = pays r p (n - (k + 1)) (b' - (p - i))) := by
            show pays r p n b = pays r p (n - (k + 1)) (b' - (p - i))
            rw [hP', hO h1 h2, show n - (k + 1) = j by omega]
          clear hN hD hO hP'
          go_wp2_with fail
          refine (MM.out _).mono ?_
          rintro e w1 ⟨rfl, x, hw⟩; rw [hw]; clear hw w1
          go_wp2_with fail
          go_roundw
          case rel => exact ⟨m + x, k + 1, b' - (p - i), by simp, by go_num, by go_num, by omega, by omega, by omega, HH⟩
          case measure => simp [intOf]; omega
    · obtain rfl : k = n := by omega
      have hP' := hP.out
      rw [Nat.sub_self, pays_zero] at hP'
      clear hP
      go_wp2_with fail
      go_ret
      first
        | exact ⟨ret_boolI hP'.symm, m, rfl⟩
        | exact ⟨rfl, m, rfl⟩

/-- The closure of Level: what it has captured lies in three boxes. -/
structure Boxes (P r : Int) (n : Nat) (x y z : Nat) (w : World) : Prop where
  principal : w.cell? ⟨x, 0, none⟩ = some (.int .i64 P)
  rate : w.cell? ⟨y, 0, none⟩ = some (.int .i64 r)
  count : w.cell? ⟨z, 0, none⟩ = some (.int .i64 (n : Int))
def clo (x y z : Nat) : Value := .func (.func 124) #[] #[.pointer (some ⟨x, 0, none⟩), .pointer (some ⟨y, 0, none⟩), .pointer (some ⟨z, 0, none⟩)]

theorem closure_at (P r p : Int) (n : Nat) (x y z : Nat) (P0 : 0 ≤ P) (P1 : P ≤ 9223372036854775807) (r0 : 0 ≤ r) (r1 : r ≤ 100000) (p0 : 0 ≤ p) (p1 : p ≤ 9223372036854775807) (n1 : n ≤ 120) (w : World) (hB : Boxes P r n x y z w) :
    Calls Tryz.prog 124 #[.int .i64 p, .pointer (some ⟨x, 0, none⟩), .pointer (some ⟨y, 0, none⟩), .pointer (some ⟨z, 0, none⟩)] w fun e w' => e = .returned (.bool (pays r p n P)) ∧ ∃ m, w' = w.drewN m := by
  obtain ⟨c1, c2, c3⟩ := hB
  have PP : Hid (∀ w, Calls Tryz.prog 125 #[.int .i64 P, .int .i64 r, .int .i64 (n : Int), .int .i64 p] w fun e w' => e = .returned (.bool (pays r p n P)) ∧ ∃ m, w' = w.drewN m) := fun w => paysOff_at P r p n P0 P1 r0 r1 p0 p1 n1 w
  generalize pays r p n P = v at *
  go_enter Tryz.func124, Tryz.ntmps124
  go_wp2_with fail
  refine (PP.out _).mono ?_
  rintro e w1 ⟨rfl, k, hw⟩; rw [hw]; clear hw w1
  go_wp2_with fail
  go_ret
  exact ⟨rfl, _, rfl⟩

set_option maxHeartbeats 2000000 in
theorem least_at (P r p : Int) (n : Nat) (x y z : Nat) (P0 : 0 ≤ P) (P1 : P ≤ 9223372036854775807) (r0 : 0 ≤ r) (r1 : r ≤ 100000) (n1 : n ≤ 120) (hp : Lv P r n p) (w : World) (hB : Boxes P r n x y z w) :
    Calls Tryz.prog 123 #[.int .i64 9223372036854775807, clo x y z] w fun e w' => e = .returned (.tuple #[.int .i64 p, .bool true]) ∧ ∃ m, w' = w.drewN m := by
  obtain ⟨p0, p1, hq⟩ := hp
  have CL : Hid (∀ (q : Int) (m : Nat), 0 ≤ q → q ≤ 9223372036854775807 → Calls Tryz.prog 124 #[.int .i64 q, .pointer (some ⟨x, 0, none⟩), .pointer (some ⟨y, 0, none⟩), .pointer (some ⟨z, 0, none⟩)] (w.drewN m) fun e w' => e = .returned (.bool (decide (p ≤ q))) ∧ ∃ k, w' = (w.drewN m).drewN k) := fun q m h0 h1 => by
    have := closure_at P r q n x y z P0 P1 r0 r1 h0 h1 n1 (w.drewN m) ⟨hB.1, hB.2, hB.3⟩
    rw [hq] at this
    exact this
  clear hq hB
  unfold clo
  go_enter Tryz.func123, Tryz.ntmps123
  go_wp2_with fail
  refine (CL.out 9223372036854775807 0 (by omega) (by omega)).mono ?_
  rintro e w1 ⟨rfl, k, hw⟩; rw [hw, decide_eq_true p1]; clear hw w1
  go_wp2_with fail
  go_loopw [6, 7] (fun vl vh wr => ∃ (m : Nat) (l h : Int), wr = w.drewN m ∧ vl = .int .i64 l ∧ vh = .int .i64 h ∧ 1 ≤ l ∧ l ≤ p ∧ p ≤ h ∧ h ≤ 9223372036854775807) (fun vl vh _ => (intOf vh).toNat - (intOf vl).toNat)
  case atStart => exact ⟨0 + k, 1, 9223372036854775807, by simp, rfl, rfl, by omega, by omega, by omega, by omega⟩
  case round =>
    obtain ⟨m, l, h, rfl, rfl, rfl, l0, l1, h0, h1⟩ := hrel
    by_cases hlt : l < h
    · have e : l + (h - l) / 2 < h := by omega
      by_cases hc : p ≤ l + (h - l) / 2
      · go_wp2_with fail
        refine (CL.out (l + (h - l) / 2) m (by omega) (by omega)).mono ?_
        rintro e w1 ⟨rfl, k', hw⟩; rw [hw, decide_eq_true hc]; clear hw w1
        go_wp2_with fail
        go_roundw
        case rel => exact ⟨m + k', l, l + (h - l) / 2, by simp, rfl, rfl, by omega, by omega, by omega, by omega⟩
        case measure => simp [intOf]; omega
      · go_wp2_with fail
        refine (CL.out (l + (h - l) / 2) m (by omega) (by omega)).mono ?_
        rintro e w1 ⟨rfl, k', hw⟩; rw [hw, decide_eq_false (by omega)]; clear hw w1
        go_wp2_with fail
        go_roundw
        case rel => exact ⟨m + k', l + (h - l) / 2 + 1, h, by simp, rfl, rfl, by omega, by omega, by omega, by omega⟩
        case measure => simp [intOf]; omega
    · obtain rfl : l = p := by omega
      go_wp2_with fail
      go_ret2
      exact ⟨rfl, m, rfl⟩

theorem least_no (P r : Int) (n : Nat) (x y z : Nat) (P0 : 0 ≤ P) (P1 : P ≤ 9223372036854775807) (r0 : 0 ≤ r) (r1 : r ≤ 100000) (n1 : n ≤ 120) (hp : pays r 9223372036854775807 n P = false) (w : World) (hB : Boxes P r n x y z w) :
    Calls Tryz.prog 123 #[.int .i64 9223372036854775807, clo x y z] w fun e w' => e = .returned (.tuple #[.int .i64 0, .bool false]) ∧ ∃ m, w' = w.drewN m := by
  have CL : Hid (Calls Tryz.prog 124 #[.int .i64 9223372036854775807, .pointer (some ⟨x, 0, none⟩), .pointer (some ⟨y, 0, none⟩), .pointer (some ⟨z, 0, none⟩)] w fun e w' => e = .returned (.bool false) ∧ ∃ k, w' = w.drewN k) := by
    have := closure_at P r 9223372036854775807 n x y z P0 P1 r0 r1 (by omega) (by omega) n1 w hB
    rw [hp] at this
    exact this
  clear hp hB
  unfold clo
  go_enter Tryz.func123, Tryz.ntmps123
  go_wp2_with fail
  refine CL.out.mono ?_
  rintro e w1 ⟨rfl, k, hw⟩; rw [hw]; clear hw w1
  go_wp2_with fail
  go_ret2
  exact ⟨rfl, _, rfl⟩

/-- The three boxes that Level makes. -/
def boxed (P r : Int) (n : Nat) (w : World) : World := ((w.alloc (.cells #[.int .i64 P] 2)).alloc (.cells #[.int .i64 r] 2)).alloc (.cells #[.int .i64 (n : Int)] 3)
theorem boxed_boxes (P r : Int) (n : Nat) (w : World) : Boxes P r n w.heap.size (w.heap.size + 1) (w.heap.size + 1 + 1) (boxed P r n w) := by
  unfold boxed
  have s1 : (w.alloc (.cells #[.int .i64 P] 2)).heap.size = w.heap.size + 1 := by simp
  have s2 : ((w.alloc (.cells #[.int .i64 P] 2)).alloc (.cells #[.int .i64 r] 2)).heap.size = w.heap.size + 1 + 1 := by simp
  refine ⟨?_, ?_, ?_⟩
  · rw [World.cell?_alloc_past _ _ _ (by omega), World.cell?_alloc_past _ _ _ (by omega), World.cell?_alloc_at _ _ _ _ rfl]; rfl
  · rw [World.cell?_alloc_past _ _ _ (by omega), World.cell?_alloc_at _ _ _ _ s1.symm]; rfl
  · rw [World.cell?_alloc_at _ _ _ _ s2.symm]; rfl

set_option maxHeartbeats 2000000 in
theorem level_at (P r p : Int) (n : Nat) (P0 : 1 ≤ P) (P1 : P ≤ 9223372036854775807) (r0 : 0 ≤ r) (r1 : r ≤ 100000) (n0 : 1 ≤ n) (n1 : n ≤ 120) (hp : Lv P r n p) (w : World) :
    Calls Tryz.prog 106 #[.int .i64 P, .int .i64 r, .int .i64 (n : Int)] w fun e w' => e = .returned (.tuple #[.int .i64 p, .bool true]) ∧ ∃ m, w' = (boxed P r n w).drewN m := by
  have IR : Hid (∀ w, Calls Tryz.prog 104 #[.int .i64 r] w fun e w' => e = .returned (.bool true) ∧ w' = w) := fun w => isRate_at r true (decide_eq_true ⟨r0, r1⟩) w
  have IC : Hid (∀ w, Calls Tryz.prog 105 #[.int .i64 (n : Int)] w fun e w' => e = .returned (.bool true) ∧ w' = w) := fun w => isCount_at n true (decide_eq_true (by omega)) w
  have hn : (1 : Int) ≤ (n : Int) := by omega
  have LL : Hid (Calls Tryz.prog 123 #[.int .i64 9223372036854775807, clo w.heap.size (w.heap.size + 1) (w.heap.size + 1 + 1)] (boxed P r n w) fun e w' => e = .returned (.tuple #[.int .i64 p, .bool true]) ∧ ∃ m, w' = (boxed P r n w).drewN m) := least_at P r p n _ _ _ (by omega) P1 r0 r1 n1 hp _ (boxed_boxes P r n w)
  go_enter Tryz.func106, Tryz.ntmps106
  go_wp2_with fail
  refine (IR.out _).mono ?_
  rintro e w1 ⟨rfl, hw⟩; rw [hw]; clear hw w1
  go_wp2_with fail
  refine (IC.out _).mono ?_
  rintro e w1 ⟨rfl, hw⟩; rw [hw]; clear hw w1
  go_wp2_with fail
  refine LL.out.mono ?_
  rintro e w1 ⟨rfl, k, hw⟩; rw [hw]; clear hw w1
  go_wp2_with fail
  go_ret2
  exact ⟨rfl, k, rfl⟩

set_option maxHeartbeats 2000000 in
theorem level_big (P r : Int) (n : Nat) (P0 : 1 ≤ P) (P1 : P ≤ 9223372036854775807) (r0 : 0 ≤ r) (r1 : r ≤ 100000) (n0 : 1 ≤ n) (n1 : n ≤ 120) (hp : pays r 9223372036854775807 n P = false) (w : World) :
    Calls Tryz.prog 106 #[.int .i64 P, .int .i64 r, .int .i64 (n : Int)] w fun e w' => e = .returned (.tuple #[.int .i64 0, .bool false]) ∧ ∃ m, w' = (boxed P r n w).drewN m := by
  have IR : Hid (∀ w, Calls Tryz.prog 104 #[.int .i64 r] w fun e w' => e = .returned (.bool true) ∧ w' = w) := fun w => isRate_at r true (decide_eq_true ⟨r0, r1⟩) w
  have IC : Hid (∀ w, Calls Tryz.prog 105 #[.int .i64 (n : Int)] w fun e w' => e = .returned (.bool true) ∧ w' = w) := fun w => isCount_at n true (decide_eq_true (by omega)) w
  have hn : (1 : Int) ≤ (n : Int) := by omega
  have LL : Hid (Calls Tryz.prog 123 #[.int .i64 9223372036854775807, clo w.heap.size (w.heap.size + 1) (w.heap.size + 1 + 1)] (boxed P r n w) fun e w' => e = .returned (.tuple #[.int .i64 0, .bool false]) ∧ ∃ m, w' = (boxed P r n w).drewN m) := least_no P r n _ _ _ (by omega) P1 r0 r1 n1 hp _ (boxed_boxes P r n w)
  clear hp
  go_enter Tryz.func106, Tryz.ntmps106
  go_wp2_with fail
  refine (IR.out _).mono ?_
  rintro e w1 ⟨rfl, hw⟩; rw [hw]; clear hw w1
  go_wp2_with fail
  refine (IC.out _).mono ?_
  rintro e w1 ⟨rfl, hw⟩; rw [hw]; clear hw w1
  go_wp2_with fail
  refine LL.out.mono ?_
  rintro e w1 ⟨rfl, k, hw⟩; rw [hw]; clear hw w1
  go_wp2_with fail
  go_ret2
  exact ⟨rfl, k, rfl⟩
end Go.Proofs.YtgdmkcbbomfmdaaGreatDoor
