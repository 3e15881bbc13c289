/-
  Ours: contracts of interest's isRate, isCarry, Span, Daily.
-/
import Derived.Test.YtkabfdajpilomaaIntMath
import Derived.Test.YtkabfdajpilomaaCalc
import Derived.Test.YtkabfdajpilomaaAddM
namespace Go.Proofs.Ytkabfdajpilomaa
open Go.RowKit IntM

def rateB (x : Int) : Bool := decide (0 ≤ x ∧ x ≤ 100000)
def carB (x : Int) : Bool := decide (0 ≤ x ∧ x < 3650000)

theorem isRate_at (x : Int) (b : Bool) (h : rateB x = b) (w : World) :
    Calls Try.prog 17 #[.int .i64 x] w fun e w' => e = .returned (.bool b) ∧ w' = w := by
  subst h
  by_cases h : 0 ≤ x
  · by_cases h' : x ≤ 100000
    · have e : rateB x = true := by simp [rateB]; omega
      rw [e]; clear e
      go_enter Try.func17, Try.ntmps17
      go_wp2
      go_ret
      exact ⟨rfl, rfl⟩
    · have e : rateB x = false := by simp [rateB]; omega
      rw [e]; clear e
      go_enter Try.func17, Try.ntmps17
      go_wp2
      go_ret
      exact ⟨rfl, rfl⟩
  · have e : rateB x = false := by simp [rateB]; omega
    rw [e]; clear e
    go_enter Try.func17, Try.ntmps17
    go_wp2
    go_ret
    exact ⟨rfl, rfl⟩

theorem isCarry_at (x : Int) (b : Bool) (h : carB x = b) (w : World) :
    Calls Try.prog 18 #[.int .i64 x] w fun e w' => e = .returned (.bool b) ∧ w' = w := by
  subst h
  by_cases h : 0 ≤ x
  · by_cases h' : x < 3650000
    · have e : carB x = true := by simp [carB]; omega
      rw [e]; clear e
      go_enter Try.func18, Try.ntmps18
      go_wp2
      go_ret
      exact ⟨rfl, rfl⟩
    · have e : carB x = false := by simp [carB]; omega
      rw [e]; clear e
      go_enter Try.func18, Try.ntmps18
      go_wp2
      go_ret
      exact ⟨rfl, rfl⟩
  · have e : carB x = false := by simp [carB]; omega
    rw [e]; clear e
    go_enter Try.func18, Try.ntmps18
    go_wp2
    go_ret
    exact ⟨rfl, rfl⟩

/-- May these be asked: a principal, a rate, a carry, a number of days? -/
def spGood (P r c d : Int) : Prop := 0 ≤ P ∧ 0 ≤ r ∧ r ≤ 100000 ∧ 0 ≤ c ∧ c < 3650000 ∧ 0 ≤ d ∧ d ≤ 3652059

theorem rd_prod {r d : Int} (r0 : 0 ≤ r) (r1 : r ≤ 100000) (d0 : 0 ≤ d) (d1 : d ≤ 3652059) : 0 ≤ r * d ∧ r * d ≤ 365205900000 := by
  refine ⟨Int.mul_nonneg r0 d0, ?_⟩
  have := Int.mul_le_mul r1 d1 d0 (by omega : (0 : Int) ≤ 100000)
  omega

theorem fl_pos {P x : Int} (P0 : 0 ≤ P) (x0 : 0 ≤ x) (h : P * x / 3650000 ≤ 9223372036854775807) : flOk P x 3650000 = true ∧ flQ P x 3650000 = P * x / 3650000 ∧ flR P x 3650000 = P * x % 3650000 := by
  have p0 := Int.mul_nonneg P0 x0
  have e : flOk P x 3650000 = true := by unfold flOk; rw [decide_eq_true_iff]; omega
  exact ⟨e, by simp [flQ, e], by simp [flR, e]⟩
theorem fl_big {P x : Int} (h : 9223372036854775807 < P * x / 3650000) : flOk P x 3650000 = false ∧ flQ P x 3650000 = 0 ∧ flR P x 3650000 = 0 := by
  have e : flOk P x 3650000 = false := by unfold flOk; rw [decide_eq_false_iff_not]; omega
  exact ⟨e, by simp [flQ, e], by simp [flR, e]⟩

set_option maxHeartbeats 400000 in
theorem span_yes (P r c d : Int) (h : spGood P r c d) (P1 : P ≤ 9223372036854775807) (hf : cnt P r d c / 3650000 ≤ 9223372036854775807) (w : World) :
    Calls Try.prog 10 #[.int .i64 P, .int .i64 r, .int .i64 c, .int .i64 d] w fun e w' =>
      e = .returned (.tuple #[.int .i64 (cnt P r d c / 3650000), .int .i64 (cnt P r d c % 3650000), .bool true]) ∧ ∃ n, w' = w.drewN n := by
  obtain ⟨P0, r0, r1, c0, c1, d0, d1⟩ := h
  obtain ⟨x0, x1⟩ := rd_prod r0 r1 d0 d1
  have IR : Hid (∀ w, Calls Try.prog 17 #[.int .i64 r] w fun e w' => e = .returned (.bool true) ∧ w' = w) := fun w => isRate_at r true (decide_eq_true ⟨r0, r1⟩) w
  have IC : Hid (∀ w, Calls Try.prog 18 #[.int .i64 c] w fun e w' => e = .returned (.bool true) ∧ w' = w) := fun w => isCarry_at c true (decide_eq_true ⟨c0, c1⟩) w
  have nn := Int.mul_nonneg P0 x0
  obtain ⟨f1, f2, f3⟩ := fl_pos P0 x0 (show P * (r * d) / 3650000 ≤ 9223372036854775807 by unfold cnt at hf; omega)
  have F := fun w => floor_any P (r * d) 3650000 (by omega) P1 (by omega) (by omega) (by omega) (by omega) w
  rw [f1, f2, f3] at F
  have e1 := cnt_floor P r d c c0 c1
  have e2 := cnt_over P r d c c0 c1
  generalize hx : r * d = x at *
  obtain ⟨q, hq⟩ : ∃ q, P * x / 3650000 = q := ⟨_, rfl⟩
  obtain ⟨s, hs⟩ : ∃ s, P * x % 3650000 = s := ⟨_, rfl⟩
  have s0 : 0 ≤ s := by omega
  have s1 : s < 3650000 := by omega
  have q0 : 0 ≤ q := by omega
  rw [hq, hs] at F e1 e2
  have FF : Hid (∀ w, Calls Try.prog 11 #[.int .i64 P, .int .i64 x, .int .i64 3650000] w fun e w' => e = .returned (.tuple #[.int .i64 q, .int .i64 s, .bool true]) ∧ ∃ n, w' = w.drewN n) := F
  have q1 : q ≤ 9223372036854775807 := by
    by_cases hr : s + c < 3650000
    · obtain ⟨g1, g2⟩ := e1 hr; omega
    · obtain ⟨g1, g2⟩ := e2 hr; omega
  clear F f1 f2 f3 nn hq hs
  by_cases hr : s + c < 3650000
  · obtain ⟨g1, g2⟩ := e1 hr
    rw [g1, g2]
    clear e1 e2 g1 g2 hf
    go_enter Try.func10, Try.ntmps10
    go_wp2_with fail
    refine (IR.out _).mono ?_
    rintro e w1 ⟨rfl, hw⟩; rw [hw]; clear hw w1
    go_wp2_with fail
    refine (IC.out _).mono ?_
    rintro e w1 ⟨rfl, hw⟩; rw [hw]; clear hw w1
    go_wp2_with fail
    try rw [hx]
    refine (FF.out _).mono ?_
    rintro e w1 ⟨rfl, n, hw⟩; rw [hw]; clear hw w1
    go_wp2_with fail
    go_ret3
    exact ⟨ret3 rfl (by omega) rfl, _, rfl⟩
  · obtain ⟨g1, g2⟩ := e2 hr
    rw [g1] at hf
    rw [g1, g2]
    clear e1 e2 g1 g2
    have AA : Hid (∀ w, Calls Try.prog 19 #[.int .i64 q, .int .i64 1] w fun e w' => e = .returned (.tuple #[.int .i64 (q + 1), .bool true]) ∧ w' = w) := fun w => by
      have := addM_any q 1 (by omega) (by omega) (by omega) (by omega) w
      have k : adOk (q + 1) = true := decide_eq_true (by omega)
      rw [k] at this
      simpa only [adV, k, if_true] using this
    go_enter Try.func10, Try.ntmps10
    go_wp2_with fail
    refine (IR.out _).mono ?_
    rintro e w1 ⟨rfl, hw⟩; rw [hw]; clear hw w1
    go_wp2_with fail
    refine (IC.out _).mono ?_
    rintro e w1 ⟨rfl, hw⟩; rw [hw]; clear hw w1
    go_wp2_with fail
    try rw [hx]
    refine (FF.out _).mono ?_
    rintro e w1 ⟨rfl, n, hw⟩; rw [hw]; clear hw w1
    go_wp2_with fail
    refine (AA.out _).mono ?_
    rintro e w1 ⟨rfl, hw⟩; rw [hw]; clear hw w1
    go_wp2_with fail
    go_ret3
    exact ⟨ret3 rfl (by omega) rfl, _, rfl⟩

set_option maxHeartbeats 400000 in
theorem span_big (P r c d : Int) (h : spGood P r c d) (P1 : P ≤ 9223372036854775807) (hf : 9223372036854775807 < cnt P r d c / 3650000) (w : World) :
    Calls Try.prog 10 #[.int .i64 P, .int .i64 r, .int .i64 c, .int .i64 d] w fun e w' =>
      e = .returned (.tuple #[.int .i64 0, .int .i64 0, .bool false]) ∧ ∃ n, w' = w.drewN n := by
  obtain ⟨P0, r0, r1, c0, c1, d0, d1⟩ := h
  obtain ⟨x0, x1⟩ := rd_prod r0 r1 d0 d1
  have IR : Hid (∀ w, Calls Try.prog 17 #[.int .i64 r] w fun e w' => e = .returned (.bool true) ∧ w' = w) := fun w => isRate_at r true (decide_eq_true ⟨r0, r1⟩) w
  have IC : Hid (∀ w, Calls Try.prog 18 #[.int .i64 c] w fun e w' => e = .returned (.bool true) ∧ w' = w) := fun w => isCarry_at c true (decide_eq_true ⟨c0, c1⟩) w
  have nn := Int.mul_nonneg P0 x0
  have F := fun w => floor_any P (r * d) 3650000 (by omega) P1 (by omega) (by omega) (by omega) (by omega) w
  unfold cnt at hf
  by_cases hb : P * (r * d) / 3650000 ≤ 9223372036854775807
  · obtain ⟨f1, f2, f3⟩ := fl_pos P0 x0 hb
    rw [f1, f2, f3] at F
    generalize hx : r * d = x at *
    obtain ⟨q, hq⟩ : ∃ q, P * x / 3650000 = q := ⟨_, rfl⟩
    obtain ⟨s, hs⟩ : ∃ s, P * x % 3650000 = s := ⟨_, rfl⟩
    have s0 : 0 ≤ s := by omega
    have s1 : s < 3650000 := by omega
    have hr : ¬ s + c < 3650000 := by omega
    have hq' : q = 9223372036854775807 := by omega
    rw [hq, hs, hq'] at F
    have FF : Hid (∀ w, Calls Try.prog 11 #[.int .i64 P, .int .i64 x, .int .i64 3650000] w fun e w' => e = .returned (.tuple #[.int .i64 9223372036854775807, .int .i64 s, .bool true]) ∧ ∃ n, w' = w.drewN n) := F
    have AA : Hid (∀ w, Calls Try.prog 19 #[.int .i64 9223372036854775807, .int .i64 1] w fun e w' => e = .returned (.tuple #[.int .i64 0, .bool false]) ∧ w' = w) := fun w => by
      have := addM_any 9223372036854775807 1 (by omega) (by omega) (by omega) (by omega) w
      have k : adOk (9223372036854775807 + 1) = false := decide_eq_false (by omega)
      rw [k] at this
      simpa only [adV, k, Bool.false_eq_true, if_false] using this
    clear F f1 f2 f3 nn hq hs hf hb
    go_enter Try.func10, Try.ntmps10
    go_wp2_with fail
    refine (IR.out _).mono ?_
    rintro e w1 ⟨rfl, hw⟩; rw [hw]; clear hw w1
    go_wp2_with fail
    refine (IC.out _).mono ?_
    rintro e w1 ⟨rfl, hw⟩; rw [hw]; clear hw w1
    go_wp2_with fail
    try rw [hx]
    refine (FF.out _).mono ?_
    rintro e w1 ⟨rfl, n, hw⟩; rw [hw]; clear hw w1
    go_wp2_with fail
    refine (AA.out _).mono ?_
    rintro e w1 ⟨rfl, hw⟩; rw [hw]; clear hw w1
    go_wp2_with fail
    go_ret3
    exact ⟨rfl, _, rfl⟩
  · obtain ⟨f1, f2, f3⟩ := fl_big (P := P) (x := r * d) (by omega)
    rw [f1, f2, f3] at F
    generalize hx : r * d = x at *
    have FF : Hid (∀ w, Calls Try.prog 11 #[.int .i64 P, .int .i64 x, .int .i64 3650000] w fun e w' => e = .returned (.tuple #[.int .i64 0, .int .i64 0, .bool false]) ∧ ∃ n, w' = w.drewN n) := F
    clear F f1 f2 f3 nn hf hb
    go_enter Try.func10, Try.ntmps10
    go_wp2_with fail
    refine (IR.out _).mono ?_
    rintro e w1 ⟨rfl, hw⟩; rw [hw]; clear hw w1
    go_wp2_with fail
    refine (IC.out _).mono ?_
    rintro e w1 ⟨rfl, hw⟩; rw [hw]; clear hw w1
    go_wp2_with fail
    try rw [hx]
    refine (FF.out _).mono ?_
    rintro e w1 ⟨rfl, n, hw⟩; rw [hw]; clear hw w1
    go_wp2_with fail
    go_ret3
    exact ⟨rfl, _, rfl⟩

theorem span_no (P r c d : Int) (h : ¬ spGood P r c d) (w : World) :
    Calls Try.prog 10 #[.int .i64 P, .int .i64 r, .int .i64 c, .int .i64 d] w fun e w' =>
      e = .returned (.tuple #[.int .i64 0, .int .i64 0, .bool false]) ∧ w' = w := by
  unfold spGood at h
  by_cases hP : 0 ≤ P
  · have IR : Hid (∀ w, Calls Try.prog 17 #[.int .i64 r] w fun e w' => e = .returned (.bool (rateB r)) ∧ w' = w) := fun w => isRate_at r _ rfl w
    have IC : Hid (∀ w, Calls Try.prog 18 #[.int .i64 c] w fun e w' => e = .returned (.bool (carB c)) ∧ w' = w) := fun w => isCarry_at c _ rfl w
    by_cases hr : 0 ≤ r ∧ r ≤ 100000
    · have er : rateB r = true := decide_eq_true hr
      rw [er] at IR
      by_cases hc : 0 ≤ c ∧ c < 3650000
      · have ec : carB c = true := decide_eq_true hc
        rw [ec] at IC
        by_cases hd : 0 ≤ d
        · have hd1 : 3652059 < d := by omega
          clear h
          go_enter Try.func10, Try.ntmps10
          go_wp2_with fail
          refine (IR.out _).mono ?_
          rintro e w1 ⟨rfl, hw⟩; rw [hw]; clear hw w1
          go_wp2_with fail
          refine (IC.out _).mono ?_
          rintro e w1 ⟨rfl, hw⟩; rw [hw]; clear hw w1
          go_wp2_with fail
          go_ret3
          exact ⟨rfl, rfl⟩
        · clear h
          go_enter Try.func10, Try.ntmps10
          go_wp2_with fail
          refine (IR.out _).mono ?_
          rintro e w1 ⟨rfl, hw⟩; rw [hw]; clear hw w1
          go_wp2_with fail
          refine (IC.out _).mono ?_
          rintro e w1 ⟨rfl, hw⟩; rw [hw]; clear hw w1
          go_wp2_with fail
          go_ret3
          exact ⟨rfl, rfl⟩
      · have ec : carB c = false := decide_eq_false hc
        rw [ec] at IC
        clear h
        go_enter Try.func10, Try.ntmps10
        go_wp2_with fail
        refine (IR.out _).mono ?_
        rintro e w1 ⟨rfl, hw⟩; rw [hw]; clear hw w1
        go_wp2_with fail
        refine (IC.out _).mono ?_
        rintro e w1 ⟨rfl, hw⟩; rw [hw]; clear hw w1
        go_wp2_with fail
        go_ret3
        exact ⟨rfl, rfl⟩
    · have er : rateB r = false := decide_eq_false hr
      rw [er] at IR
      clear h
      go_enter Try.func10, Try.ntmps10
      go_wp2_with fail
      refine (IR.out _).mono ?_
      rintro e w1 ⟨rfl, hw⟩; rw [hw]; clear hw w1
      go_wp2_with fail
      go_ret3
      exact ⟨rfl, rfl⟩
  · clear h
    go_enter Try.func10, Try.ntmps10
    go_wp2_with fail
    go_ret3
    exact ⟨rfl, rfl⟩

/-- The answer of Span at any numbers. -/
def spOk (P r c d : Int) : Bool := decide (0 ≤ P ∧ 0 ≤ r ∧ r ≤ 100000 ∧ 0 ≤ c ∧ c < 3650000 ∧ 0 ≤ d ∧ d ≤ 3652059 ∧ cnt P r d c / 3650000 ≤ 9223372036854775807)
def spC (P r c d : Int) : Int := if spOk P r c d then cnt P r d c / 3650000 else 0
def spR (P r c d : Int) : Int := if spOk P r c d then cnt P r d c % 3650000 else 0

theorem sp_good {P r c d : Int} (h : spGood P r c d) (hf : cnt P r d c / 3650000 ≤ 9223372036854775807) : spOk P r c d = true ∧ spC P r c d = cnt P r d c / 3650000 ∧ spR P r c d = cnt P r d c % 3650000 := by
  have e : spOk P r c d = true := by unfold spGood at h; unfold spOk; rw [decide_eq_true_iff]; omega
  exact ⟨e, by simp [spC, e], by simp [spR, e]⟩
theorem sp_bad {P r c d : Int} (h : ¬ (spGood P r c d ∧ cnt P r d c / 3650000 ≤ 9223372036854775807)) : spOk P r c d = false ∧ spC P r c d = 0 ∧ spR P r c d = 0 := by
  have e : spOk P r c d = false := by unfold spGood at h; unfold spOk; rw [decide_eq_false_iff_not]; omega
  exact ⟨e, by simp [spC, e], by simp [spR, e]⟩

theorem span_any (P r c d : Int) (P1 : P ≤ 9223372036854775807) (w : World) :
    Calls Try.prog 10 #[.int .i64 P, .int .i64 r, .int .i64 c, .int .i64 d] w fun e w' =>
      e = .returned (.tuple #[.int .i64 (spC P r c d), .int .i64 (spR P r c d), .bool (spOk P r c d)]) ∧ ∃ n, w' = w.drewN n := by
  by_cases hg : spGood P r c d
  · by_cases hf : cnt P r d c / 3650000 ≤ 9223372036854775807
    · obtain ⟨e1, e2, e3⟩ := sp_good hg hf
      rw [e1, e2, e3]
      exact span_yes P r c d hg P1 hf w
    · obtain ⟨e1, e2, e3⟩ := sp_bad (fun h => hf h.2)
      rw [e1, e2, e3]
      exact span_big P r c d hg P1 (by omega) w
  · obtain ⟨e1, e2, e3⟩ := sp_bad (fun h => hg h.1)
    rw [e1, e2, e3]
    exact (span_no P r c d hg w).mono fun e w' ⟨he, hw⟩ => ⟨he, 0, by rw [hw]; rfl⟩

theorem daily_any (P r c : Int) (P1 : P ≤ 9223372036854775807) (w : World) :
    Calls Try.prog 13 #[.int .i64 P, .int .i64 r, .int .i64 c] w fun e w' =>
      e = .returned (.tuple #[.int .i64 (spC P r c 1), .int .i64 (spR P r c 1), .bool (spOk P r c 1)]) ∧ ∃ n, w' = w.drewN n := by
  have SS : Hid (∀ w, Calls Try.prog 10 #[.int .i64 P, .int .i64 r, .int .i64 c, .int .i64 1] w fun e w' =>
      e = .returned (.tuple #[.int .i64 (spC P r c 1), .int .i64 (spR P r c 1), .bool (spOk P r c 1)]) ∧ ∃ n, w' = w.drewN n) := fun w => span_any P r c 1 P1 w
  generalize spC P r c 1 = q at *
  generalize spR P r c 1 = s at *
  generalize spOk P r c 1 = k at *
  go_enter Try.func13, Try.ntmps13
  go_wp2_with fail
  refine (SS.out _).mono ?_
  rintro e w1 ⟨rfl, n, hw⟩; rw [hw]; clear hw w1
  go_wp2_with fail
  go_ret3
  exact ⟨rfl, _, rfl⟩
end Go.Proofs.Ytkabfdajpilomaa
