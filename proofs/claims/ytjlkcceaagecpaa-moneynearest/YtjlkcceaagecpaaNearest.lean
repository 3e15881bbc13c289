/-
  Ours: the law MoneyNearest walked.
-/
import Derived.Test.YtjlkcceaagecpaaNear
import Derived.Test.YtjlkcceaagecpaaFloorRest
namespace Go.Proofs.Ytjlkcceaagecpaa
open Go.RowKit

namespace Nearest
theorem core (P C : Nat) (hC : 0 < C) : ∃ r k : Nat, P = C * k + r ∧ r < C ∧
    ((rnd P C = k + 1 ∧ C ≤ 2 * r ∧ (2 * r = C → (k + 1) % 2 = 0)) ∨ (rnd P C = k ∧ 2 * r ≤ C ∧ (2 * r = C → k % 2 = 0))) := by
  refine ⟨P % C, P / C, (Nat.div_add_mod P C).symm, Nat.mod_lt _ hC, ?_⟩
  have l := Nat.mod_lt P hC
  unfold rnd upB
  generalize P % C = r at *
  generalize P / C = k at *
  by_cases u : C - r < r ∨ (r = C - r ∧ k % 2 = 1)
  · left
    simp only [u, decide_true, if_true]
    refine ⟨trivial, by omega, by omega⟩
  · right
    simp only [u, decide_false, Bool.false_eq_true, if_false]
    refine ⟨trivial, by omega, by omega⟩

/-- The rounded quotient and its distance, with a sign. -/
theorem signed (X q : Int) (P C : Nat) (hC : 0 < C) (h : (X = P ∧ q = rnd P C) ∨ (X = -(P : Int) ∧ q = -(rnd P C : Int))) :
    -(C : Int) ≤ 2 * (X - q * C) ∧ 2 * (X - q * C) ≤ C ∧ (2 * (X - q * C) = C ∨ 2 * (X - q * C) = -(C : Int) → q.tmod 2 = 0) ∧ X.tdiv C ≤ q + 1 ∧ q ≤ X.tdiv C + 1 ∧ q.natAbs * C ≤ P + C ∧ (C = 1 → q.natAbs = P) ∧ (2 ≤ C → q.natAbs ≤ P / 2 + 1) := by
  obtain ⟨r, k, hP, hr, hk⟩ := core P C hC
  have td : (P : Int).tdiv C = k := by
    rw [Int.tdiv_eq_ediv_of_nonneg (by omega), ← Int.natCast_ediv]
    have : P / C = k := by rw [hP, Nat.mul_add_div hC, Nat.div_eq_of_lt hr, Nat.add_zero]
    rw [this]
  have ck : ((C * k : Nat) : Int) = (C : Int) * k := Int.natCast_mul _ _
  have cm : ∀ x : Int, x * (C : Int) = (C : Int) * x := fun x => Int.mul_comm _ _
  have h2 : 2 ≤ C → 2 * k ≤ C * k := fun h => Nat.mul_le_mul_right _ h
  have h1 : C = 1 → C * k = k := fun h => by rw [h, Nat.one_mul]
  have hkk : ((k + 1 : Nat) : Int) * C = (C : Int) * k + C := by rw [Int.natCast_add, cm, Int.mul_add]; simp
  have nn : ∀ n : Nat, ((n : Int)).tmod 2 = ((n % 2 : Nat) : Int) := fun n => by rw [Int.tmod_eq_emod_of_nonneg (by omega)]; omega
  have nm : ∀ n : Nat, (-(n : Int)).tmod 2 = -((n % 2 : Nat) : Int) := fun n => by rw [Int.neg_tmod, nn]
  have kC : (k + 1) * C = C * k + C := by rw [Nat.mul_comm, Nat.mul_add, Nat.mul_one]
  have kC0 : k * C = C * k := Nat.mul_comm _ _
  rcases h with ⟨rfl, rfl⟩ | ⟨rfl, rfl⟩
  · rw [td, nn, Int.natAbs_natCast]
    rcases hk with ⟨e, f, g⟩ | ⟨e, f, g⟩
    · rw [e, hkk, kC]
      generalize (C : Int) * k = z at *
      generalize C * k = y at *
      refine ⟨by omega, by omega, fun _ => by omega, by omega, by omega, by omega, by omega, by omega⟩
    · rw [e, cm, kC0]
      generalize (C : Int) * k = z at *
      generalize C * k = y at *
      refine ⟨by omega, by omega, fun _ => by omega, by omega, by omega, by omega, by omega, by omega⟩
  · rw [Int.neg_tdiv, td, nm, Int.natAbs_neg, Int.natAbs_natCast, Int.neg_mul]
    rcases hk with ⟨e, f, g⟩ | ⟨e, f, g⟩
    · rw [e, hkk, kC]
      generalize (C : Int) * k = z at *
      generalize C * k = y at *
      refine ⟨by omega, by omega, fun _ => by omega, by omega, by omega, by omega, by omega, by omega⟩
    · rw [e, cm, kC0]
      generalize (C : Int) * k = z at *
      generalize C * k = y at *
      refine ⟨by omega, by omega, fun _ => by omega, by omega, by omega, by omega, by omega, by omega⟩

structure Facts (X q c : Int) : Prop where
  lo : -c ≤ 2 * (X - q * c)
  hi : 2 * (X - q * c) ≤ c
  half : 2 * (X - q * c) = c ∨ 2 * (X - q * c) = -c → q.tmod 2 = 0
  t0 : X.tdiv c ≤ q + 1
  t1 : q ≤ X.tdiv c + 1
  m0 : -2305843009213693952 ≤ q * c
  m1 : q * c ≤ 2305843009213693952

theorem facts (a b c : Int) (ha : smB a = true) (hb : smB b = true) (hc : smB c = true) (c0 : c ≠ 0) :
    mdOk a b c = true ∧ -1152921504606846976 ≤ mdV a b c ∧ mdV a b c ≤ 1152921504606846976 ∧ (0 < c → Facts (a * b) (mdV a b c) c) ∧ (c < 0 → Facts (-a * b) (mdV a b c) (-c)) := by
  have hP : a.natAbs * b.natAbs ≤ 1073741824 * 1073741824 := by
    simp only [smB, decide_eq_true_iff] at ha hb
    exact Nat.mul_le_mul (by omega) (by omega)
  have hC : 0 < c.natAbs := by omega
  have hC1 : c.natAbs ≤ 1073741824 := by simp only [smB, decide_eq_true_iff] at hc; omega
  have pr := Signs.prod a b
  have sg := fun X q h => signed X q (a.natAbs * b.natAbs) c.natAbs hC h
  have base := sg (a.natAbs * b.natAbs : Nat) (rnd (a.natAbs * b.natAbs) c.natAbs : Nat) (Or.inl ⟨rfl, rfl⟩)
  obtain ⟨-, -, -, -, -, bm, b1, b2⟩ := base
  rw [Int.natAbs_natCast] at bm b1 b2
  have hq : rnd (a.natAbs * b.natAbs) c.natAbs ≤ 1152921504606846976 := by
    by_cases h : c.natAbs = 1
    · rw [b1 h]; omega
    · have := b2 (by omega); omega
  have ok : mdOk a b c = true := by
    unfold mdOk
    simp only [hC, decide_true, Bool.true_and]
    unfold sgOk
    split <;> simp <;> omega
  have hv : mdV a b c = if neg3 a b c then -(rnd (a.natAbs * b.natAbs) c.natAbs : Int) else (rnd (a.natAbs * b.natAbs) c.natAbs : Int) := by
    have e : sgOk (neg3 a b c) (rnd (a.natAbs * b.natAbs) c.natAbs) = true := by simpa [mdOk, hC] using ok
    unfold mdV sgV
    rw [ok, e]
    simp
  have fin : ∀ X : Int, (X = (a.natAbs * b.natAbs : Nat) ∧ mdV a b c = (rnd (a.natAbs * b.natAbs) c.natAbs : Nat)) ∨ (X = -((a.natAbs * b.natAbs : Nat) : Int) ∧ mdV a b c = -((rnd (a.natAbs * b.natAbs) c.natAbs : Nat) : Int)) → Facts X (mdV a b c) (c.natAbs : Int) := by
    intro X h
    obtain ⟨f1, f2, f3, f4, f5, f6, -, -⟩ := sg X (mdV a b c) h
    have hx : -1152921504606846976 ≤ X ∧ X ≤ 1152921504606846976 := by
      rcases h with ⟨h, -⟩ | ⟨h, -⟩ <;> rw [h] <;> generalize a.natAbs * b.natAbs = P at * <;> omega
    exact ⟨f1, f2, f3, f4, f5, by omega, by omega⟩
  refine ⟨ok, ?_, ?_, ?_, ?_⟩
  · rw [hv]; split <;> omega
  · rw [hv]; split <;> omega
  · intro hc0
    have e : (c.natAbs : Int) = c := by omega
    have n3 : neg3 a b c = Signs.neg2 a b := by
      have : decide (c < 0) = false := decide_eq_false (by omega)
      simp [neg3, this]
    have := fin (a * b) (by
      rw [hv, n3, pr]
      cases Signs.neg2 a b
      · left; simp
      · right; simp)
    rwa [e] at this
  · intro hc0
    have e : (c.natAbs : Int) = -c := by omega
    have n3 : neg3 a b c = !Signs.neg2 a b := by
      have : decide (c < 0) = true := decide_eq_true (by omega)
      simp [neg3, this]
    have := fin (-a * b) (by
      rw [hv, n3, Int.neg_mul, pr]
      cases Signs.neg2 a b
      · right; simp
      · left; simp)
    rwa [e] at this
end Nearest

set_option maxHeartbeats 1000000 in
theorem nearest_out (a b c : Int) (h : ¬ (smB a = true ∧ smB b = true ∧ smB c = true ∧ c ≠ 0)) (w : World) :
    Calls Try.prog 5 #[.int .i64 a, .int .i64 b, .int .i64 c] w fun e w' => e = .returned (.bool true) ∧ ∃ n, w' = w.drewN n := by
  have sa := fun w => small_any a w
  have sb := fun w => small_any b w
  have sc := fun w => small_any c w
  cases ha : smB a
  · rw [ha] at sa
    have SA : Hid (∀ w, Calls Try.prog 16 #[.int .i64 a] w fun e w' => e = .returned (.bool false) ∧ w' = w) := sa
    clear sa sb sc ha h
    go_enter Try.func5, Try.ntmps5
    go_wp2_with fail
    refine (SA.out _).mono ?_
    rintro e w1 ⟨rfl, hw⟩; rw [hw]; clear hw w1
    go_wp2_with fail
    go_ret
    exact ⟨rfl, 0, rfl⟩
  rw [ha] at sa
  have SA : Hid (∀ w, Calls Try.prog 16 #[.int .i64 a] w fun e w' => e = .returned (.bool true) ∧ w' = w) := sa
  cases hb : smB b
  · rw [hb] at sb
    have SB : Hid (∀ w, Calls Try.prog 16 #[.int .i64 b] w fun e w' => e = .returned (.bool false) ∧ w' = w) := sb
    clear sa sb sc ha hb h
    go_enter Try.func5, Try.ntmps5
    go_wp2_with fail
    refine (SA.out _).mono ?_
    rintro e w1 ⟨rfl, hw⟩; rw [hw]; clear hw w1
    go_wp2_with fail
    refine (SB.out _).mono ?_
    rintro e w1 ⟨rfl, hw⟩; rw [hw]; clear hw w1
    go_wp2_with fail
    go_ret
    exact ⟨rfl, 0, rfl⟩
  rw [hb] at sb
  have SB : Hid (∀ w, Calls Try.prog 16 #[.int .i64 b] w fun e w' => e = .returned (.bool true) ∧ w' = w) := sb
  cases hc : smB c
  · rw [hc] at sc
    have SC : Hid (∀ w, Calls Try.prog 16 #[.int .i64 c] w fun e w' => e = .returned (.bool false) ∧ w' = w) := sc
    clear sa sb sc ha hb hc h
    go_enter Try.func5, Try.ntmps5
    go_wp2_with fail
    refine (SA.out _).mono ?_
    rintro e w1 ⟨rfl, hw⟩; rw [hw]; clear hw w1
    go_wp2_with fail
    refine (SB.out _).mono ?_
    rintro e w1 ⟨rfl, hw⟩; rw [hw]; clear hw w1
    go_wp2_with fail
    refine (SC.out _).mono ?_
    rintro e w1 ⟨rfl, hw⟩; rw [hw]; clear hw w1
    go_wp2_with fail
    go_ret
    exact ⟨rfl, 0, rfl⟩
  rw [hc] at sc
  have SC : Hid (∀ w, Calls Try.prog 16 #[.int .i64 c] w fun e w' => e = .returned (.bool true) ∧ w' = w) := sc
  have e0 : (c == 0) = true := by
    rw [beq_iff_eq]
    by_cases h0 : c = 0
    · exact h0
    · exact absurd ⟨ha, hb, hc, h0⟩ h
  clear sa sb sc ha hb hc h
  go_enter Try.func5, Try.ntmps5
  go_wp2_with fail
  refine (SA.out _).mono ?_
  rintro e w1 ⟨rfl, hw⟩; rw [hw]; clear hw w1
  go_wp2_with fail
  refine (SB.out _).mono ?_
  rintro e w1 ⟨rfl, hw⟩; rw [hw]; clear hw w1
  go_wp2_with fail
  refine (SC.out _).mono ?_
  rintro e w1 ⟨rfl, hw⟩; rw [hw]; clear hw w1
  go_wp2_with fail
  go_ret
  exact ⟨rfl, 0, rfl⟩

set_option maxHeartbeats 1000000 in
theorem nearest_in (a b c : Int) (ha : smB a = true) (hb : smB b = true) (hc : smB c = true) (c0 : c ≠ 0) (w : World) :
    Calls Try.prog 5 #[.int .i64 a, .int .i64 b, .int .i64 c] w fun e w' => e = .returned (.bool true) ∧ ∃ n, w' = w.drewN n := by
  have sa := fun w => small_any a w
  have sb := fun w => small_any b w
  have sc := fun w => small_any c w
  obtain ⟨hok, v0, v1, F1, F2⟩ := Nearest.facts a b c ha hb hc c0
  obtain ⟨p0, p1⟩ := FloorRest.prod_small ha hb
  rw [ha] at sa
  rw [hb] at sb
  rw [hc] at sc
  have SA : Hid (∀ w, Calls Try.prog 16 #[.int .i64 a] w fun e w' => e = .returned (.bool true) ∧ w' = w) := sa
  have SB : Hid (∀ w, Calls Try.prog 16 #[.int .i64 b] w fun e w' => e = .returned (.bool true) ∧ w' = w) := sb
  have SC : Hid (∀ w, Calls Try.prog 16 #[.int .i64 c] w fun e w' => e = .returned (.bool true) ∧ w' = w) := sc
  simp only [smB, decide_eq_true_iff] at ha hb hc
  obtain ⟨a0, a1⟩ := ha
  obtain ⟨b0, b1⟩ := hb
  obtain ⟨c1, c2⟩ := hc
  have D := fun w => near_any a b c (by omega) (by omega) (by omega) (by omega) (by omega) (by omega) w
  rw [hok] at D
  generalize mdV a b c = q at *
  have DD : Hid (∀ w, Calls Try.prog 17 #[.int .i64 a, .int .i64 b, .int .i64 c] w fun e w' => e = .returned (.tuple #[.int .i64 q, .bool true]) ∧ ∃ n, w' = w.drewN n) := D
  have e0 : (c == 0) = false := by rw [beq_eq_false_iff_ne]; exact c0
  clear D sa sb sc hok
  by_cases hs : c < 0
  · obtain ⟨f1, f2, f3, f4, f5, f6, f7⟩ := F2 hs
    clear F1 F2 c0
    have n0 : -1152921504606846976 ≤ -a * b := by rw [Int.neg_mul]; omega
    have n1 : -a * b ≤ 1152921504606846976 := by rw [Int.neg_mul]; omega
    clear p0 p1
    obtain ⟨x, hx⟩ : ∃ x, -a = x := ⟨_, rfl⟩
    obtain ⟨y, hy⟩ : ∃ y, -c = y := ⟨_, rfl⟩
    rw [hx] at f1 f2 f3 f4 f5 n0 n1
    rw [hy] at f1 f2 f3 f4 f5 f6 f7
    have y0 : 0 < y := by omega
    have y1 : y ≤ 1073741824 := by omega
    have x0 : -1073741824 ≤ x := by omega
    have x1 : x ≤ 1073741824 := by omega
    by_cases d1 : 2 * (x * b - q * y) = y
    · have g := f3 (Or.inl d1)
      have g1 : (2 * (x * b - q * y) == y) = true := by rw [beq_iff_eq]; exact d1
      have g2 : (q.tmod 2 == 0) = true := by rw [beq_iff_eq]; exact g
      clear f3 d1 g
      go_enter Try.func5, Try.ntmps5
      go_wp2_with fail
      refine (SA.out _).mono ?_
      rintro e w1 ⟨rfl, hw⟩; rw [hw]; clear hw w1
      go_wp2_with fail
      refine (SB.out _).mono ?_
      rintro e w1 ⟨rfl, hw⟩; rw [hw]; clear hw w1
      go_wp2_with fail
      refine (SC.out _).mono ?_
      rintro e w1 ⟨rfl, hw⟩; rw [hw]; clear hw w1
      go_wp2_with fail
      refine (DD.out _).mono ?_
      rintro e w1 ⟨rfl, n, hw⟩; rw [hw]; clear hw w1
      go_wp2_with fail
      go_ret
      exact ⟨rfl, _, rfl⟩
    have g1 : (2 * (x * b - q * y) == y) = false := by rw [beq_eq_false_iff_ne]; exact d1
    by_cases d2 : 2 * (x * b - q * y) = -y
    · have g := f3 (Or.inr (by omega))
      have g3 : (2 * (x * b - q * y) == -y) = true := by rw [beq_iff_eq]; exact d2
      have g2 : (q.tmod 2 == 0) = true := by rw [beq_iff_eq]; exact g
      clear f3 d1 d2 g
      go_enter Try.func5, Try.ntmps5
      go_wp2_with fail
      refine (SA.out _).mono ?_
      rintro e w1 ⟨rfl, hw⟩; rw [hw]; clear hw w1
      go_wp2_with fail
      refine (SB.out _).mono ?_
      rintro e w1 ⟨rfl, hw⟩; rw [hw]; clear hw w1
      go_wp2_with fail
      refine (SC.out _).mono ?_
      rintro e w1 ⟨rfl, hw⟩; rw [hw]; clear hw w1
      go_wp2_with fail
      refine (DD.out _).mono ?_
      rintro e w1 ⟨rfl, n, hw⟩; rw [hw]; clear hw w1
      go_wp2_with fail
      go_ret
      exact ⟨rfl, _, rfl⟩
    · have g3 : (2 * (x * b - q * y) == -y) = false := by rw [beq_eq_false_iff_ne]; exact d2
      have k1 : 2 * (x * b - q * y) < y := by omega
      have k2 : -y < 2 * (x * b - q * y) := by omega
      clear f1 f2 f3 d1 d2
      go_enter Try.func5, Try.ntmps5
      go_wp2_with fail
      refine (SA.out _).mono ?_
      rintro e w1 ⟨rfl, hw⟩; rw [hw]; clear hw w1
      go_wp2_with fail
      refine (SB.out _).mono ?_
      rintro e w1 ⟨rfl, hw⟩; rw [hw]; clear hw w1
      go_wp2_with fail
      refine (SC.out _).mono ?_
      rintro e w1 ⟨rfl, hw⟩; rw [hw]; clear hw w1
      go_wp2_with fail
      refine (DD.out _).mono ?_
      rintro e w1 ⟨rfl, n, hw⟩; rw [hw]; clear hw w1
      go_wp2_with fail
      go_ret
      exact ⟨rfl, _, rfl⟩
  · obtain ⟨f1, f2, f3, f4, f5, f6, f7⟩ := F1 (by omega)
    clear F1 F2 c0
    have cp : 0 < c := by have := e0; rw [beq_eq_false_iff_ne] at this; omega
    by_cases d1 : 2 * (a * b - q * c) = c
    · have g := f3 (Or.inl d1)
      have g1 : (2 * (a * b - q * c) == c) = true := by rw [beq_iff_eq]; exact d1
      have g2 : (q.tmod 2 == 0) = true := by rw [beq_iff_eq]; exact g
      clear f3 d1 g
      go_enter Try.func5, Try.ntmps5
      go_wp2_with fail
      refine (SA.out _).mono ?_
      rintro e w1 ⟨rfl, hw⟩; rw [hw]; clear hw w1
      go_wp2_with fail
      refine (SB.out _).mono ?_
      rintro e w1 ⟨rfl, hw⟩; rw [hw]; clear hw w1
      go_wp2_with fail
      refine (SC.out _).mono ?_
      rintro e w1 ⟨rfl, hw⟩; rw [hw]; clear hw w1
      go_wp2_with fail
      refine (DD.out _).mono ?_
      rintro e w1 ⟨rfl, n, hw⟩; rw [hw]; clear hw w1
      go_wp2_with fail
      go_ret
      exact ⟨rfl, _, rfl⟩
    have g1 : (2 * (a * b - q * c) == c) = false := by rw [beq_eq_false_iff_ne]; exact d1
    by_cases d2 : 2 * (a * b - q * c) = -c
    · have g := f3 (Or.inr (by omega))
      have g3 : (2 * (a * b - q * c) == -c) = true := by rw [beq_iff_eq]; exact d2
      have g2 : (q.tmod 2 == 0) = true := by rw [beq_iff_eq]; exact g
      clear f3 d1 d2 g
      go_enter Try.func5, Try.ntmps5
      go_wp2_with fail
      refine (SA.out _).mono ?_
      rintro e w1 ⟨rfl, hw⟩; rw [hw]; clear hw w1
      go_wp2_with fail
      refine (SB.out _).mono ?_
      rintro e w1 ⟨rfl, hw⟩; rw [hw]; clear hw w1
      go_wp2_with fail
      refine (SC.out _).mono ?_
      rintro e w1 ⟨rfl, hw⟩; rw [hw]; clear hw w1
      go_wp2_with fail
      refine (DD.out _).mono ?_
      rintro e w1 ⟨rfl, n, hw⟩; rw [hw]; clear hw w1
      go_wp2_with fail
      go_ret
      exact ⟨rfl, _, rfl⟩
    · have g3 : (2 * (a * b - q * c) == -c) = false := by rw [beq_eq_false_iff_ne]; exact d2
      have k1 : 2 * (a * b - q * c) < c := by omega
      have k2 : -c < 2 * (a * b - q * c) := by omega
      clear f1 f2 f3 d1 d2
      go_enter Try.func5, Try.ntmps5
      go_wp2_with fail
      refine (SA.out _).mono ?_
      rintro e w1 ⟨rfl, hw⟩; rw [hw]; clear hw w1
      go_wp2_with fail
      refine (SB.out _).mono ?_
      rintro e w1 ⟨rfl, hw⟩; rw [hw]; clear hw w1
      go_wp2_with fail
      refine (SC.out _).mono ?_
      rintro e w1 ⟨rfl, hw⟩; rw [hw]; clear hw w1
      go_wp2_with fail
      refine (DD.out _).mono ?_
      rintro e w1 ⟨rfl, n, hw⟩; rw [hw]; clear hw w1
      go_wp2_with fail
      go_ret
      exact ⟨rfl, _, rfl⟩

theorem nearest_grown (a b c : Int) (_a0 : -9223372036854775808 ≤ a) (_a1 : a ≤ 9223372036854775807) (_b0 : -9223372036854775808 ≤ b) (_b1 : b ≤ 9223372036854775807) (_c0 : -9223372036854775808 ≤ c) (_c1 : c ≤ 9223372036854775807) (w : World) :
    Calls Try.prog 5 #[.int .i64 a, .int .i64 b, .int .i64 c] w fun e w' => e = .returned (.bool true) ∧ Grown w w' := by
  by_cases h : smB a = true ∧ smB b = true ∧ smB c = true ∧ c ≠ 0
  · exact (nearest_in a b c h.1 h.2.1 h.2.2.1 h.2.2.2 w).mono fun e w' ⟨he, n, hw⟩ => ⟨he, by rw [hw]; exact Grown.refl w⟩
  · exact (nearest_out a b c h w).mono fun e w' ⟨he, n, hw⟩ => ⟨he, by rw [hw]; exact Grown.refl w⟩

end Go.Proofs.Ytjlkcceaagecpaa
