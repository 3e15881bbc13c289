/-
  Ours: contracts of the calendar's small functions: isYear, isDay, Leap, daysAhead, yearOf, Weekday.
-/
import Derived.KernelRfl
import Derived.Test.YtgdmkcbbomfmdaaGreatDoorProg
import Derived.WalkKit
import Derived.WalkSpells
import Derived.WalkLawsBesides
import Derived.RowKit3
import Derived.Laws.Bits64
namespace Go.Proofs.YtgdmkcbbomfmdaaGreatDoor.CalM

/-- The days ahead of a month in a year that is no leap year; the month's length in such a year. -/
def aheadT : List Int := [0, 0, 31, 59, 90, 120, 151, 181, 212, 243, 273, 304, 334]
def lengthT : List Int := [0, 31, 28, 31, 30, 31, 30, 31, 31, 30, 31, 30, 31]

def leapB (y : Int) : Bool := decide (y % 4 = 0 ∧ (y % 100 ≠ 0 ∨ y % 400 = 0))
def lp (y : Int) : Int := if y % 4 = 0 ∧ (y % 100 ≠ 0 ∨ y % 400 = 0) then 1 else 0

def aheadI (m : Int) : Int := if m = 1 then 0 else if m = 2 then 31 else if m = 3 then 59 else if m = 4 then 90 else if m = 5 then 120 else if m = 6 then 151 else if m = 7 then 181 else if m = 8 then 212 else if m = 9 then 243 else if m = 10 then 273 else if m = 11 then 304 else 334
def lenI (y m : Int) : Int := if m = 2 then 28 + lp y else if m = 4 ∨ m = 6 ∨ m = 9 ∨ m = 11 then 30 else 31

/-- The days ahead of a year. -/
def yA (y : Int) : Int := (y - 1) * 365 + (y - 1) / 4 - (y - 1) / 100 + (y - 1) / 400
/-- The days ahead of a month. -/
def dA (y m : Int) : Int := yA y + aheadI m + (if m > 2 then lp y else 0)

theorem lp_01 (y : Int) : lp y = 0 ∨ lp y = 1 := by unfold lp; split <;> simp
theorem lp_leap (y : Int) : lp y = 1 ↔ leapB y = true := by unfold lp leapB; split <;> simp_all
theorem lp_not (y : Int) : lp y = 0 ↔ leapB y = false := by unfold lp leapB; split <;> simp_all

theorem yA_succ (y : Int) : yA (y + 1) = yA y + 365 + lp y := by
  unfold yA lp
  split <;> omega
theorem yA_cycle (y : Int) : yA (y + 400) = yA y + 146097 := by
  unfold yA; omega
theorem lp_cycle (y : Int) : lp (y + 400) = lp y := by
  unfold lp
  have h1 : (y + 400) % 4 = y % 4 := by omega
  have h2 : (y + 400) % 100 = y % 100 := by omega
  have h3 : (y + 400) % 400 = y % 400 := by omega
  rw [h1, h2, h3]
theorem dA_cycle (y m : Int) : dA (y + 400) m = dA y m + 146097 := by
  unfold dA; rw [yA_cycle, lp_cycle]; omega

theorem month12 {m : Int} (h1 : 1 ≤ m) (h2 : m ≤ 12) : m = 1 ∨ m = 2 ∨ m = 3 ∨ m = 4 ∨ m = 5 ∨ m = 6 ∨ m = 7 ∨ m = 8 ∨ m = 9 ∨ m = 10 ∨ m = 11 ∨ m = 12 := by omega

theorem dA_one (y : Int) : dA y 1 = yA y := by simp [dA, aheadI]
theorem dA_month (y m : Int) (h1 : 1 ≤ m) (h2 : m < 12) : dA y (m + 1) = dA y m + lenI y m := by
  rcases month12 h1 (by omega) with h | h | h | h | h | h | h | h | h | h | h | h <;> subst h <;> simp [dA, aheadI, lenI] <;> omega
theorem dA_last (y : Int) : yA (y + 1) = dA y 12 + lenI y 12 := by
  rw [yA_succ]; simp [dA, aheadI, lenI]; omega
theorem len_low (y m : Int) : 28 ≤ lenI y m := by
  have := lp_01 y
  unfold lenI; split <;> (try split) <;> omega
theorem len_high (y m : Int) : lenI y m ≤ 31 := by
  have := lp_01 y
  unfold lenI; split <;> (try split) <;> omega

/-- Years and their days rise together. -/
theorem yA_mono {a b : Int} (h : a ≤ b) : yA a ≤ yA b := by
  unfold yA; omega
theorem yA_lt {a b : Int} (h : a < b) : yA a + 365 + lp a ≤ yA b := by
  rw [← yA_succ]; exact yA_mono (by omega)

theorem dA_low (y m : Int) (h1 : 1 ≤ m) (h2 : m ≤ 12) : yA y ≤ dA y m := by
  have := lp_01 y
  rcases month12 h1 h2 with h | h | h | h | h | h | h | h | h | h | h | h <;> subst h <;> simp [dA, aheadI] <;> omega
theorem dA_high (y m : Int) (h1 : 1 ≤ m) (h2 : m ≤ 12) : dA y m + lenI y m ≤ yA (y + 1) := by
  have := lp_01 y
  rw [yA_succ]
  rcases month12 h1 h2 with h | h | h | h | h | h | h | h | h | h | h | h <;> subst h <;> simp [dA, aheadI, lenI] <;> omega
theorem dA_lt (y m k : Int) (h1 : 1 ≤ m) (h2 : m < k) (h3 : k ≤ 12) : dA y m + lenI y m ≤ dA y k := by
  have := lp_01 y
  rcases month12 h1 (by omega) with h | h | h | h | h | h | h | h | h | h | h | h <;> rcases month12 (m := k) (by omega) h3 with g | g | g | g | g | g | g | g | g | g | g | g <;> subst h <;> subst g <;> first | (exfalso; omega) | (simp [dA, aheadI, lenI]; try omega)

/-- A date that is one. -/
def Ok (y m d : Int) : Prop := 1 ≤ y ∧ y ≤ 9999 ∧ 1 ≤ m ∧ m ≤ 12 ∧ 1 ≤ d ∧ d ≤ lenI y m

theorem date_unique {y m d z n e : Int} (h : Ok y m d) (g : Ok z n e) (k : dA y m + d = dA z n + e) : y = z ∧ m = n ∧ d = e := by
  obtain ⟨a1, a2, a3, a4, a5, a6⟩ := h
  obtain ⟨b1, b2, b3, b4, b5, b6⟩ := g
  have l1 := dA_low y m a3 a4
  have l2 := dA_low z n b3 b4
  have u1 := dA_high y m a3 a4
  have u2 := dA_high z n b3 b4
  have ey : y = z := by
    rcases Int.lt_trichotomy y z with h | h | h
    · have := yA_mono (a := y + 1) (b := z) (by omega); omega
    · exact h
    · have := yA_mono (a := z + 1) (b := y) (by omega); omega
  subst ey
  have em : m = n := by
    rcases Int.lt_trichotomy m n with h | h | h
    · have := dA_lt y m n a3 h b4; omega
    · exact h
    · have := dA_lt y n m b3 h a4; omega
  subst em
  exact ⟨rfl, rfl, by omega⟩

theorem yA_top : yA 10000 = 3652059 := by decide
theorem day_range {y m d : Int} (h : Ok y m d) : 1 ≤ dA y m + d ∧ dA y m + d ≤ 3652059 := by
  obtain ⟨a1, a2, a3, a4, a5, a6⟩ := h
  have l1 := dA_low y m a3 a4
  have u1 := dA_high y m a3 a4
  have := yA_mono (a := y + 1) (b := 10000) (by omega)
  rw [yA_top] at this
  have h1 : yA 1 = 0 := by decide
  have := yA_mono (a := 1) (b := y) (by omega)
  omega

/-- The year of a day, as the program reckons it. -/
def yearC (d : Int) : Int := min ((d - 1) % 146097 / 36524) 3
def yearR (d : Int) : Int := (d - 1) % 146097 - yearC d * 36524
def yearOf (d : Int) : Int := 400 * ((d - 1) / 146097) + (100 * yearC d + 4 * (yearR d / 1461)) + min (yearR d % 1461 / 365) 3 + 1

theorem lp_end (q c f Y : Int) (hY : Y = 400 * q + 100 * c + 4 * f + 4) (f0 : 0 ≤ f) (f1 : f ≤ 24) (fc : f = 24 → c = 3) : lp Y = 1 := by
  unfold lp
  rw [if_pos]
  refine ⟨by omega, ?_⟩
  by_cases h : f = 24
  · have := fc h; subst h; subst this; right; omega
  · left
    have : Y % 100 = 4 * f + 4 := by omega
    omega

set_option maxHeartbeats 2000000 in
theorem yearOf_ok (d : Int) (h1 : 1 ≤ d) (h2 : d ≤ 3652059) : 1 ≤ yearOf d ∧ yearOf d ≤ 9999 ∧ yA (yearOf d) < d ∧ d ≤ yA (yearOf d + 1) := by
  obtain ⟨q, hq⟩ : ∃ q, (d - 1) / 146097 = q := ⟨_, rfl⟩
  obtain ⟨r, hr⟩ : ∃ r, (d - 1) % 146097 = r := ⟨_, rfl⟩
  have e0 : d - 1 = 146097 * q + r := by omega
  have r0 : 0 ≤ r := by omega
  have r1 : r < 146097 := by omega
  obtain ⟨c, hc⟩ : ∃ c, yearC d = c := ⟨_, rfl⟩
  have c0 : c = min (r / 36524) 3 := by rw [← hc, ← hr]; rfl
  obtain ⟨s, hs⟩ : ∃ s, yearR d = s := ⟨_, rfl⟩
  have s0 : s = r - c * 36524 := by rw [← hs, ← hr, ← hc]; rfl
  have c1 : 0 ≤ c ∧ c ≤ 3 := by omega
  have s1 : 0 ≤ s := by omega
  have s2 : s < 36524 ∨ (c = 3 ∧ s = 36524) := by omega
  obtain ⟨f, hf⟩ : ∃ f, s / 1461 = f := ⟨_, rfl⟩
  obtain ⟨t, ht⟩ : ∃ t, s % 1461 = t := ⟨_, rfl⟩
  have e1 : s = 1461 * f + t := by omega
  have t0 : 0 ≤ t ∧ t < 1461 := by omega
  have f0 : 0 ≤ f ∧ f ≤ 24 := by omega
  obtain ⟨g, hg⟩ : ∃ g, min (t / 365) 3 = g := ⟨_, rfl⟩
  have g0 : 0 ≤ g ∧ g ≤ 3 := by omega
  have g1 : 365 * g ≤ t ∧ (t < 365 * g + 365 ∨ (g = 3 ∧ t = 1460)) := by omega
  have ey : yearOf d = 400 * q + (100 * c + 4 * f) + g + 1 := by unfold yearOf; rw [hq, hc, hs, hf, ht, hg]
  have q0 : 0 ≤ q ∧ q ≤ 24 := by omega
  rw [ey]
  generalize hY : 400 * q + (100 * c + 4 * f) + g + 1 = Y
  have y4 : (Y - 1) / 4 = 100 * q + 25 * c + f := by omega
  have y100 : (Y - 1) / 100 = 4 * q + c := by omega
  have y400 : (Y - 1) / 400 = q := by omega
  have ya : yA Y = 146097 * q + 36524 * c + 1461 * f + 365 * g := by unfold yA; rw [y4, y100, y400]; omega
  have hl : g = 3 → t = 1460 → lp Y = 1 := by
    intro a b
    have fc : f = 24 → c = 3 := by clear hq hr hc hs hf ht hg ey y4 y100 y400 ya hY c0; omega
    exact lp_end q c f Y (by clear hq hr hc hs hf ht hg ey y4 y100 y400 ya c0; omega) f0.1 f0.2 fc
  refine ⟨by omega, by omega, by omega, ?_⟩
  rw [yA_succ, ya]
  have := lp_01 Y
  rcases g1.2 with h | ⟨h, h'⟩
  · omega
  · have := hl h h'; omega
end Go.Proofs.YtgdmkcbbomfmdaaGreatDoor.CalM

namespace Go.Proofs.YtgdmkcbbomfmdaaGreatDoor
open Go.RowKit CalM

theorem ret_int {k : IntKind} {a b : Int} (h : a = b) : Ending.returned (.int k a) = .returned (.int k b) := by rw [h]
theorem ret_bool {a b : Bool} (h : a = b) : Ending.returned (.bool a) = .returned (.bool b) := by rw [h]
theorem ret_ib {k : IntKind} {a b : Int} {p q : Bool} (h : a = b) (h' : p = q) : Ending.returned (.tuple #[.int k a, .bool p]) = .returned (.tuple #[.int k b, .bool q]) := by rw [h, h']

set_option maxHeartbeats 1000000 in
theorem yearOf_at (d y : Int) (h1 : 1 ≤ d) (h2 : d ≤ 3652059) (hy : yearOf d = y) (w : World) :
    Calls Tryz.prog 121 #[.int .i64 d] w fun e w' => e = .returned (.int .i64 y) ∧ w' = w := by
  go_enter Tryz.func121, Tryz.ntmps121
  go_wp2
  all_goals
    go_ret
    refine ⟨ret_int ?_, rfl⟩
    rw [← hy]
    unfold yearOf
    have e1 : yearC d = min ((d - 1) % 146097 / 36524) 3 := rfl
    have e2 : yearR d = (d - 1) % 146097 - yearC d * 36524 := rfl
    generalize yearC d = C at *
    generalize yearR d = R at *
    generalize (d - 1) % 146097 / 36524 = A at *
    rcases Int.lt_or_le 3 A with g | g
    · have c3 : C = 3 := by omega
      subst c3
      have e3 : (d - 1) % 146097 - 109572 = R := by omega
      rw [e3] at *
      omega
    · have c3 : C = A := by omega
      subst c3
      rw [← e2] at *
      omega

theorem isYear_at (y : Int) (b : Bool) (hb : decide (1 ≤ y ∧ y ≤ 9999) = b) (w : World) :
    Calls Tryz.prog 139 #[.int .i64 y] w fun e w' => e = .returned (.bool b) ∧ w' = w := by
  by_cases h1 : 1 ≤ y
  · go_enter Tryz.func139, Tryz.ntmps139
    go_wp2
    go_ret
    exact ⟨ret_bool (by rw [← hb, Bool.eq_iff_iff]; simp; omega), rfl⟩
  · go_enter Tryz.func139, Tryz.ntmps139
    go_wp2
    go_ret
    exact ⟨ret_bool (by rw [← hb, Bool.eq_iff_iff]; simp; omega), rfl⟩

theorem isDay_at (y : Int) (b : Bool) (hb : decide (1 ≤ y ∧ y ≤ 3652059) = b) (w : World) :
    Calls Tryz.prog 120 #[.int .i64 y] w fun e w' => e = .returned (.bool b) ∧ w' = w := by
  by_cases h1 : 1 ≤ y
  · go_enter Tryz.func120, Tryz.ntmps120
    go_wp2
    go_ret
    exact ⟨ret_bool (by rw [← hb, Bool.eq_iff_iff]; simp; omega), rfl⟩
  · go_enter Tryz.func120, Tryz.ntmps120
    go_wp2
    go_ret
    exact ⟨ret_bool (by rw [← hb, Bool.eq_iff_iff]; simp; omega), rfl⟩

theorem leap_at (y : Int) (h1 : 1 ≤ y) (h2 : y ≤ 9999) (b : Bool) (hb : leapB y = b) (w : World) :
    Calls Tryz.prog 136 #[.int .i64 y] w fun e w' => e = .returned (.bool b) ∧ w' = w := by
  by_cases a1 : y % 4 = 0
  · by_cases a2 : y % 100 = 0
    · go_enter Tryz.func136, Tryz.ntmps136
      go_wp2
      go_ret
      exact ⟨ret_bool (by rw [← hb, Bool.eq_iff_iff]; simp [leapB, a1, a2]), rfl⟩
    · go_enter Tryz.func136, Tryz.ntmps136
      go_wp2
      go_ret
      exact ⟨ret_bool (by rw [← hb, Bool.eq_iff_iff]; simp [leapB, a1, a2]), rfl⟩
  · go_enter Tryz.func136, Tryz.ntmps136
    go_wp2
    go_ret
    exact ⟨ret_bool (by rw [← hb, Bool.eq_iff_iff]; simp [leapB, a1]), rfl⟩

theorem leap_no (y : Int) (h : ¬(1 ≤ y ∧ y ≤ 9999)) (w : World) :
    Calls Tryz.prog 136 #[.int .i64 y] w fun e w' => e = .returned (.bool false) ∧ w' = w := by
  by_cases h1 : 1 ≤ y
  · have h2 : ¬ y ≤ 9999 := fun g => h ⟨h1, g⟩
    clear h
    go_enter Tryz.func136, Tryz.ntmps136
    go_wp2
    go_ret
    exact ⟨rfl, rfl⟩
  · clear h
    go_enter Tryz.func136, Tryz.ntmps136
    go_wp2
    go_ret
    exact ⟨rfl, rfl⟩

theorem daysAhead_at (y m n : Int) (h1 : 1 ≤ y) (h2 : y ≤ 9999) (m1 : 1 ≤ m) (m2 : m ≤ 12) (w : World) (hA : w.cell? ⟨1, m.toNat, none⟩ = some (.int .i64 (aheadI m))) (hn : dA y m = n) :
    Calls Tryz.prog 122 #[.int .i64 y, .int .i64 m] w fun e w' => e = .returned (.int .i64 n) ∧ w' = w := by
  have b0 : 0 ≤ aheadI m ∧ aheadI m ≤ 334 := by unfold aheadI; omega
  have en : n = (y - 1) * 365 + (y - 1) / 4 - (y - 1) / 100 + (y - 1) / 400 + aheadI m + (if m > 2 then lp y else 0) := hn.symm
  clear hn
  obtain ⟨b, hb⟩ : ∃ b, leapB y = b := ⟨_, rfl⟩
  have LP : Hid (∀ w, Calls Tryz.prog 136 #[.int .i64 y] w fun e w' => e = .returned (.bool b) ∧ w' = w) := fun w => leap_at y h1 h2 b hb w
  have hl : lp y = if b then 1 else 0 := by
    have := lp_leap y
    have := lp_01 y
    cases b <;> simp_all
  rw [hl] at en
  clear hl hb
  generalize aheadI m = a at *
  by_cases hm : m > 2
  · rw [if_pos hm] at en
    cases b
    all_goals
      go_enter Tryz.func122, Tryz.ntmps122
      go_wp2_with fail
      refine (LP.out _).mono ?_
      rintro e w1 ⟨rfl, hw⟩; rw [hw]; clear hw w1
      go_wp2_with fail
      go_ret
      exact ⟨ret_int (by first | (rw [en]; simp) | simp), rfl⟩
  · rw [if_neg hm] at en
    go_enter Tryz.func122, Tryz.ntmps122
    go_wp2_with fail
    go_ret
    exact ⟨ret_int (by first | (rw [en]; simp) | simp), rfl⟩

theorem weekday_at (d n : Int) (h1 : 1 ≤ d) (h2 : d ≤ 3652059) (hn : (d - 1) % 7 + 1 = n) (w : World) :
    Calls Tryz.prog 142 #[.int .i64 d] w fun e w' => e = .returned (.tuple #[.int .i64 n, .bool true]) ∧ w' = w := by
  go_enter Tryz.func142, Tryz.ntmps142
  go_wp2
  go_ret2
  exact ⟨ret_ib (by omega) rfl, rfl⟩
theorem weekday_no (d : Int) (h : ¬(1 ≤ d ∧ d ≤ 3652059)) (w : World) :
    Calls Tryz.prog 142 #[.int .i64 d] w fun e w' => e = .returned (.tuple #[.int .i64 0, .bool false]) ∧ w' = w := by
  by_cases h1 : 1 ≤ d
  · have h2 : ¬ d ≤ 3652059 := fun g => h ⟨h1, g⟩
    clear h
    go_enter Tryz.func142, Tryz.ntmps142
    go_wp2
    go_ret2
    exact ⟨rfl, rfl⟩
  · clear h
    go_enter Tryz.func142, Tryz.ntmps142
    go_wp2
    go_ret2
    exact ⟨rfl, rfl⟩
end Go.Proofs.YtgdmkcbbomfmdaaGreatDoor
