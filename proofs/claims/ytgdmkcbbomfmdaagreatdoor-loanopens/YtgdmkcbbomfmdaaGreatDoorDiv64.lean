/-
  Ours: the contract of math/bits.Div64, walked in its own pure Go text.
-/
import Derived.Test.YtgdmkcbbomfmdaaGreatDoorProg
import Derived.WalkKit
import Derived.WalkSpells
import Derived.WalkLawsBesides
import Derived.RowKit3
import Derived.Laws.Bits64
import Derived.Deep.QuietTactic
import Derived.BigQuiet
import Derived.Deep.DeepCutAuto
import Derived.Deep.CutBlock
/-
  Ours: the plain arithmetic under math/bits.Div64: one half-word step of the division, and both of them together. No Go in sight.
-/
namespace Go.Proofs.YtgdmkcbbomfmdaaGreatDoor.Div

/-- What is asked of the divisor's halves and of the two words. -/
structure Halves (y y1 y0 u n : Int) : Prop where
  cut : y = y1 * 4294967296 + y0
  top : 2147483648 ≤ y1
  lt1 : y1 < 4294967296
  ge0 : 0 ≤ y0
  lt0 : y0 < 4294967296
  pos : 0 ≤ u
  below : u < y
  smallp : 0 ≤ n
  small : n < 4294967296

/-- The quotient of one step. -/
def quo (y u n : Int) : Int := (u * 4294967296 + n) / y

theorem mul_halves {y1 y0 q : Int} : q * (y1 * 4294967296 + y0) = q * y1 * 4294967296 + q * y0 := by
  rw [Int.mul_add, Int.mul_assoc]

theorem ypos {y y1 y0 u n : Int} (h : Halves y y1 y0 u n) : 0 < y := by
  have := h.cut; have := h.top; have := h.ge0; omega

theorem quo_nonneg {y y1 y0 u n : Int} (h : Halves y y1 y0 u n) : 0 ≤ quo y u n := by
  have := h.pos; have := h.smallp
  exact Int.ediv_nonneg (by omega) (by have := ypos h; omega)

theorem guess_le {y y1 y0 u n : Int} (h : Halves y y1 y0 u n) : 0 ≤ u / y1 ∧ u / y1 ≤ 4294967297 ∧ 0 ≤ u / y1 * y1 ∧ u / y1 * y1 ≤ u ∧ u - u / y1 * y1 < y1 := by
  have hb := h.below; have hc := h.cut; have ht := h.top; have h0 := h.lt0; have hp := h.pos
  have e : u < 4294967298 * y1 := by omega
  have a := (Int.ediv_lt_iff_lt_mul (by omega : 0 < y1)).2 e
  have b : 0 ≤ u / y1 := Int.ediv_nonneg hp (by omega)
  have c := Int.mul_ediv_add_emod u y1
  have d := Int.emod_nonneg u (by omega : y1 ≠ 0)
  have f := Int.emod_lt_of_pos u (by omega : 0 < y1)
  rw [Int.mul_comm] at c
  refine ⟨b, by omega, Int.mul_nonneg b (by omega), by omega, by omega⟩

theorem quo_lt {y y1 y0 u n : Int} (h : Halves y y1 y0 u n) : quo y u n < 4294967296 := by
  unfold quo
  have hb := h.below; have hs := h.small
  refine (Int.ediv_lt_iff_lt_mul (ypos h)).2 ?_
  omega

theorem quo_mul_le {y y1 y0 u n : Int} (h : Halves y y1 y0 u n) : quo y u n * y ≤ u * 4294967296 + n := Int.ediv_mul_le _ (by have := ypos h; omega)

theorem quo_le_guess {y y1 y0 u n : Int} (h : Halves y y1 y0 u n) : quo y u n ≤ u / y1 := by
  have hs := h.small; have hc := h.cut; have ht := h.top; have h0 := h.ge0
  have e : quo y u n * y ≤ u * 4294967296 + n := quo_mul_le h
  have e0 := quo_nonneg h
  refine (Int.le_ediv_iff_mul_le (by omega : 0 < y1)).2 ?_
  have e2 : quo y u n * y = quo y u n * y1 * 4294967296 + quo y u n * y0 := by rw [← mul_halves, ← hc]
  have e3 : 0 ≤ quo y u n * y0 := Int.mul_nonneg e0 h0
  generalize quo y u n * y1 = a at *
  generalize quo y u n * y0 = b at *
  generalize quo y u n * y = c at *
  omega

/-- The loop's test says yes: the guess is too great. -/
theorem test_yes {y y1 y0 u n q r : Int} (h : Halves y y1 y0 u n) (hq : q * y1 + r = u) (t : 4294967296 ≤ q ∨ 4294967296 * r + n < q * y0) : quo y u n + 1 ≤ q := by
  rcases t with t | t
  · have := quo_lt h; omega
  · have hc := h.cut; have ht := h.top
    have : quo y u n < q := by
      refine (Int.ediv_lt_iff_lt_mul (ypos h)).2 ?_
      rw [hc, mul_halves]
      generalize q * y1 = a at *
      generalize q * y0 = b at *
      omega
    omega

/-- The loop's test says no: the guess is not too great. -/
theorem test_no {y y1 y0 u n q r : Int} (h : Halves y y1 y0 u n) (hq : q * y1 + r = u) (t : q * y0 ≤ 4294967296 * r + n) : q ≤ quo y u n := by
  have hc := h.cut; have ht := h.top
  refine (Int.le_ediv_iff_mul_le (ypos h)).2 ?_
  rw [hc, mul_halves]
  generalize q * y1 = a at *
  generalize q * y0 = b at *
  omega

/-- The break: the rest has left the half word. -/
theorem test_break {y y1 y0 u n q r : Int} (h : Halves y y1 y0 u n) (hq : q * y1 + r = u) (hr : 4294967296 ≤ r) (hk : q ≤ 4294967296) : q ≤ quo y u n := by
  have hc := h.cut; have ht := h.top; have h0 := h.lt0; have hg := h.ge0; have hn := h.smallp
  have e : q * y0 ≤ 4294967296 * y0 := Int.mul_le_mul_of_nonneg_right hk hg
  refine (Int.le_ediv_iff_mul_le (ypos h)).2 ?_
  rw [hc, mul_halves]
  generalize q * y1 = a at *
  generalize q * y0 = b at *
  omega

/-- What the test multiplies stays within a word. -/
theorem test_word {y y1 y0 u n q : Int} (h : Halves y y1 y0 u n) (h0 : 0 ≤ q) (h1 : q ≤ 4294967297) : 0 ≤ q * y0 ∧ q * y0 < 18446744073709551616 := by
  have hg := h.ge0; have hl := h.lt0
  have e : q * y0 ≤ 4294967297 * y0 := Int.mul_le_mul_of_nonneg_right h1 hg
  exact ⟨Int.mul_nonneg h0 hg, by omega⟩

theorem rest_eq (y u n : Int) : u * 4294967296 + n - quo y u n * y = (u * 4294967296 + n) % y := by
  unfold quo
  have := Int.mul_ediv_add_emod (u * 4294967296 + n) y
  rw [Int.mul_comm] at this
  omega

theorem two_steps_aux (y a n0 : Int) (hy : 0 < y) :
    (a * 4294967296 + n0) / y = a / y * 4294967296 + (a % y * 4294967296 + n0) / y ∧ (a * 4294967296 + n0) % y = (a % y * 4294967296 + n0) % y := by
  have d := Int.mul_ediv_add_emod a y
  have e2 : a * 4294967296 + n0 = (a % y * 4294967296 + n0) + y * (a / y * 4294967296) := by
    have h : a * 4294967296 = (y * (a / y) + a % y) * 4294967296 := by rw [d]
    rw [h, Int.add_mul, Int.mul_assoc]
    omega
  refine ⟨?_, ?_⟩
  · rw [e2, Int.add_mul_ediv_left _ _ (by omega)]; omega
  · rw [e2, Int.add_mul_emod_self_left]

/-- Two steps are the whole division. -/
theorem two_steps (y u n1 n0 : Int) (hy : 0 < y) :
    (u * 18446744073709551616 + n1 * 4294967296 + n0) / y = quo y u n1 * 4294967296 + quo y ((u * 4294967296 + n1) % y) n0 ∧
    (u * 18446744073709551616 + n1 * 4294967296 + n0) % y = ((u * 4294967296 + n1) % y * 4294967296 + n0) % y := by
  have e : u * 18446744073709551616 + n1 * 4294967296 + n0 = (u * 4294967296 + n1) * 4294967296 + n0 := by omega
  rw [e]
  exact two_steps_aux y _ n0 hy

end Go.Proofs.YtgdmkcbbomfmdaaGreatDoor.Div

namespace Go.Proofs.YtgdmkcbbomfmdaaGreatDoor
open Go.RowKit

theorem ret_int {k : IntKind} {a b : Int} (h : a = b) : Ending.returned (.int k a) = .returned (.int k b) := by rw [h]
theorem ret_int_bool {k : IntKind} {a b : Int} {c : Bool} (h : a = b) : Ending.returned (.tuple #[.int k a, .bool c]) = .returned (.tuple #[.int k b, .bool c]) := by rw [h]

theorem size_any (x : Int) (h0 : -9223372036854775808 ≤ x) (h1 : x ≤ 9223372036854775807) (w : World) :
    Calls Tryz.prog 127 #[.int .i64 x] w fun e w' => e = .returned (.int .u64 (x.natAbs : Int)) ∧ w' = w := by
  by_cases h : x < 0
  · go_enter Tryz.func127, Tryz.ntmps127
    go_wp2
    go_ret
    exact ⟨ret_int (by simp only [IntKind.wrap_u64]; omega), rfl⟩
  · go_enter Tryz.func127, Tryz.ntmps127
    go_wp2
    go_ret
    exact ⟨ret_int (by omega), rfl⟩

/-- Does the size m with that sign fit an int64? -/
def sgOk (neg : Bool) (m : Nat) : Bool := if neg then decide (m ≤ 9223372036854775808) else decide (m < 9223372036854775808)
/-- The number of the size m with that sign, 0 where it does not fit. -/
def sgV (neg : Bool) (m : Nat) : Int := if sgOk neg m then (if neg then -(m : Int) else m) else 0

theorem signed_any (m : Int) (neg : Bool) (h0 : 0 ≤ m) (h1 : m < 18446744073709551616) (w : World) :
    Calls Tryz.prog 128 #[.int .u64 m, .bool neg] w fun e w' => e = .returned (.tuple #[.int .i64 (sgV neg m.toNat), .bool (sgOk neg m.toNat)]) ∧ w' = w := by
  obtain ⟨n, rfl⟩ := Int.eq_ofNat_of_zero_le h0
  rw [Int.toNat_natCast]
  cases neg
  · by_cases h : (n : Int) < 9223372036854775808
    · have e1 : sgOk false n = true := by simp [sgOk]; omega
      have e2 : sgV false n = n := by simp [sgV, e1]
      rw [e1, e2]; clear e1 e2
      go_enter Tryz.func128, Tryz.ntmps128
      go_wp2
      go_ret2
      exact ⟨ret_int_bool (by omega), rfl⟩
    · have e1 : sgOk false n = false := by simp [sgOk]; omega
      have e2 : sgV false n = 0 := by simp [sgV, e1]
      rw [e1, e2]; clear e1 e2
      go_enter Tryz.func128, Tryz.ntmps128
      go_wp2
      go_ret2
      exact ⟨rfl, rfl⟩
  · by_cases h : (n : Int) ≤ 9223372036854775808
    · have e1 : sgOk true n = true := by simp [sgOk]; omega
      have e2 : sgV true n = -(n : Int) := by simp [sgV, e1]
      rw [e1, e2]; clear e1 e2
      go_enter Tryz.func128, Tryz.ntmps128
      go_wp2
      go_ret2
      exact ⟨ret_int_bool (by simp only [IntKind.wrap_u64, wrap64]; omega), rfl⟩
    · have e1 : sgOk true n = false := by simp [sgOk]; omega
      have e2 : sgV true n = 0 := by simp [sgV, e1]
      rw [e1, e2]; clear e1 e2
      go_enter Tryz.func128, Tryz.ntmps128
      go_wp2
      go_ret2
      exact ⟨rfl, rfl⟩

end Go.Proofs.YtgdmkcbbomfmdaaGreatDoor

namespace Go.Proofs.YtgdmkcbbomfmdaaGreatDoor
open Go.RowKit

set_option maxHeartbeats 400000 in
theorem div64_low (lo y : Int) (h0 : 0 ≤ lo) (h1 : lo < 18446744073709551616) (y0 : 0 < y) (y1 : y < 18446744073709551616) (w : World) :
    Calls Tryz.prog 138 #[.int .u64 0, .int .u64 lo, .int .u64 y] w fun e w' => e = .returned (.tuple #[.int .u64 (lo / y), .int .u64 (lo % y)]) ∧ ∃ n, w' = w.drewN n := by
  have e0 : (y == 0) = false := by simp; omega
  have e1 : ¬ y = 0 := by omega
  go_enter Tryz.func138, Tryz.ntmps138
  go_wp2
  go_quiet (fail)
  go_wp2
  go_ret2
  exact ⟨rfl, _, rfl⟩

set_option maxHeartbeats 1000000 in
theorem div64_core (hi lo y s Y c b u v n1 n0 : Int) (k0 : 0 < hi) (y0 : hi < y)
   (s0 : 0 ≤ s) (s1 : s ≤ 63) (hY : IntKind.u64.wrap (y * 2 ^ s.toNat) = Y) (Y1 : Y < 18446744073709551616) (u64 : u < 18446744073709551616)
   (hc : Y / 4294967296 = c) (hb : bits BinOp.and .u64 Y 4294967295 = b)
   (hu : bits BinOp.or IntKind.u64 (IntKind.u64.wrap (hi * 2 ^ s.toNat)) (lo / 2 ^ (64 - s).toNat) = u)
   (hv : IntKind.u64.wrap (lo * 2 ^ s.toNat) = v) (hn1 : v / 4294967296 = n1) (hn0 : bits BinOp.and .u64 v 4294967295 = n0)
   (H1 : Div.Halves Y c b u n1) (n00 : 0 ≤ n0) (n01 : n0 < 4294967296)
   (_h0 : 0 ≤ lo) (_h1 : lo < 18446744073709551616)
   (hlz : ∀ w, Calls Tryz.prog 141 #[.int .u64 y] w fun e w' => e = .returned (.int .i64 s) ∧ w' = w) (w : World) :
    Calls Tryz.prog 138 #[.int .u64 hi, .int .u64 lo, .int .u64 y] w fun e w' =>
      e = .returned (.tuple #[.int .u64 (Div.quo Y u n1 * 4294967296 + Div.quo Y ((u * 4294967296 + n1) % Y) n0), .int .u64 ((((u * 4294967296 + n1) % Y * 4294967296 + n0) % Y) / 2 ^ s.toNat)]) ∧ w' = w := by
  have e0 : (y == 0) = false := by simp; omega
  have e1 : (hi == 0) = false := by simp; omega
  obtain ⟨g0, g1, g2, g3, g4⟩ := Div.guess_le H1
  have q0 := Div.quo_le_guess H1
  have c0 := H1.top; have c1 := H1.lt1; have b0 := H1.ge0; have b1 := H1.lt0; have u0 := H1.pos; have m0 := H1.smallp; have m1 := H1.small
  have HH : Hid (Div.Halves Y c b u n1) := H1
  clear H1
  have Hlz : Hid (∀ w, Calls Tryz.prog 141 #[.int .u64 y] w fun e w' => e = .returned (.int .i64 s) ∧ w' = w) := hlz
  clear hlz
  go_enter Tryz.func138, Tryz.ntmps138
  go_upto_block 0 with (go_at_call 141; refine (Hlz.out _).mono ?_; rintro e w' ⟨rfl, hw⟩; rw [hw]; clear hw w')
  go_cut [15, 16] (fun x1 x2 wx => x1 = .int .u64 (Div.quo Y u n1) ∧ (∃ r : Int, x2 = .int .u64 r) ∧ wx = w)
  case first =>
    go_wp2
    go_loop [15, 16] (fun x1 x2 => ∃ q r : Int, x1 = .int .u64 q ∧ x2 = .int .u64 r ∧ q * c + r = u ∧ Div.quo Y u n1 ≤ q ∧ 0 ≤ q ∧ q ≤ 4294967297 ∧ 0 ≤ r ∧ r < 4294967296) (fun x1 _ => (intOf x1).toNat)
    case atStart =>
      exact ⟨u / c, u - u / c * c, rfl, rfl, by omega, q0, g0, g1, by omega, by omega⟩
    case round =>
      obtain ⟨q, r, rfl, rfl, a1, a2, a3, a4, a5, a6⟩ := hrel
      have tw := Div.test_word HH.out a3 a4
      have AA : Hid (q * c + r = u) := a1
      clear a1
      by_cases t : 4294967296 ≤ q ∨ 4294967296 * r + n1 < q * b
      · have ty := Div.test_yes HH.out AA.out t
        obtain ⟨q, rfl⟩ : ∃ k, q = k + 1 := ⟨q - 1, by omega⟩
        have qn := Div.quo_nonneg HH.out
        have BB : Hid (q * c + (r + c) = u) := by have h := AA.out; rw [Int.add_mul, Int.one_mul] at h; show q * c + (r + c) = u; omega
        clear AA
        obtain ⟨p, hp⟩ : ∃ p, (q + 1) * b = p := ⟨_, rfl⟩
        rw [hp] at tw t
        obtain ⟨tw1, tw2⟩ := tw
        by_cases t1 : 4294967296 ≤ q + 1
        all_goals
          by_cases t3 : 4294967296 ≤ r + c
          all_goals
            try (have t2 : 4294967296 * r + n1 < p := by omega)
            clear t
            go_wp2
            first
              | (go_meet
                 case rel =>
                   have tb := Div.test_break HH.out BB.out (by omega) (by omega)
                   obtain rfl : q = Div.quo Y u n1 := by omega
                   exact ⟨rfl, ⟨_, rfl⟩, rfl⟩)
              | exact ⟨⟨q, r + c, rfl, rfl, BB.out, by omega, by omega, by omega, by omega, by omega⟩, by simp [intOf]; omega⟩
      · have tn := Div.test_no HH.out AA.out (by omega)
        obtain ⟨t1, t2⟩ := not_or.1 t
        clear t
        obtain ⟨p, hp⟩ : ∃ p, q * b = p := ⟨_, rfl⟩
        rw [hp] at tw t2
        obtain ⟨tw1, tw2⟩ := tw
        go_wp2
        go_meet
        case rel =>
          obtain rfl : q = Div.quo Y u n1 := by omega
          exact ⟨rfl, ⟨_, rfl⟩, rfl⟩
  case rest =>
    obtain ⟨rfl, ⟨r, rfl⟩, rfl⟩ := hcut
    have yp := Div.ypos HH.out
    have r0 : 0 ≤ (u * 4294967296 + n1) % Y := Int.emod_nonneg _ (by omega)
    have r1 : (u * 4294967296 + n1) % Y < Y := Int.emod_lt_of_pos _ yp
    have hR : IntKind.u64.wrap (IntKind.u64.wrap (IntKind.u64.wrap (u * 4294967296) + n1) - IntKind.u64.wrap (Div.quo Y u n1 * Y)) = (u * 4294967296 + n1) % Y := by
      have e := Div.rest_eq Y u n1
      simp only [IntKind.wrap_u64]
      omega
    obtain ⟨R, HR⟩ : ∃ R, Hid ((u * 4294967296 + n1) % Y = R) := ⟨_, rfl⟩
    rw [HR.out] at hR r0 r1
    have H2 : Div.Halves Y c b R n0 := ⟨HH.out.cut, c0, c1, b0, b1, r0, r1, n00, n01⟩
    obtain ⟨g0, g1, g2, g3, g4⟩ := Div.guess_le H2
    have q0 := Div.quo_le_guess H2
    have z0 := Div.quo_nonneg HH.out
    have z1 := Div.quo_lt HH.out
    have z2 := Div.quo_nonneg H2
    have z3 := Div.quo_lt H2
    have hR2 : IntKind.u64.wrap (IntKind.u64.wrap (IntKind.u64.wrap (R * 4294967296) + n0) - IntKind.u64.wrap (Div.quo Y R n0 * Y)) = (R * 4294967296 + n0) % Y := by
      have e := Div.rest_eq Y R n0
      have e1 : 0 ≤ (R * 4294967296 + n0) % Y := Int.emod_nonneg _ (by omega)
      have e2 : (R * 4294967296 + n0) % Y < Y := Int.emod_lt_of_pos _ yp
      simp only [IntKind.wrap_u64]
      omega
    have r2 : 0 ≤ (R * 4294967296 + n0) % Y := Int.emod_nonneg _ (by omega)
    obtain ⟨R2, HR2⟩ : ∃ R2, Hid ((R * 4294967296 + n0) % Y = R2) := ⟨_, rfl⟩
    rw [HR2.out] at hR2 r2
    have HH2 : Hid (Div.Halves Y c b R n0) := H2
    clear H2
    go_upto_block 2 with fail
    go_cut [18, 16] (fun x1 x2 wx => x1 = .int .u64 (Div.quo Y R n0) ∧ (∃ r : Int, x2 = .int .u64 r) ∧ wx = wc)
    case first =>
      clear hR hR2
      go_wp2
      go_loop [18, 16] (fun x1 x2 => ∃ q r : Int, x1 = .int .u64 q ∧ x2 = .int .u64 r ∧ q * c + r = R ∧ Div.quo Y R n0 ≤ q ∧ 0 ≤ q ∧ q ≤ 4294967297 ∧ 0 ≤ r ∧ r < 4294967296) (fun x1 _ => (intOf x1).toNat)
      case atStart =>
        exact ⟨R / c, R - R / c * c, rfl, rfl, by omega, q0, g0, g1, by omega, by omega⟩
      case round =>
        obtain ⟨q, r, rfl, rfl, a1, a2, a3, a4, a5, a6⟩ := hrel
        have tw := Div.test_word HH2.out a3 a4
        have AA : Hid (q * c + r = R) := a1
        clear a1
        by_cases t : 4294967296 ≤ q ∨ 4294967296 * r + n0 < q * b
        · have ty := Div.test_yes HH2.out AA.out t
          obtain ⟨q, rfl⟩ : ∃ k, q = k + 1 := ⟨q - 1, by omega⟩
          have BB : Hid (q * c + (r + c) = R) := by have h := AA.out; rw [Int.add_mul, Int.one_mul] at h; show q * c + (r + c) = R; omega
          clear AA
          obtain ⟨p, hp⟩ : ∃ p, (q + 1) * b = p := ⟨_, rfl⟩
          rw [hp] at tw t
          obtain ⟨tw1, tw2⟩ := tw
          by_cases t1 : 4294967296 ≤ q + 1
          all_goals
            by_cases t3 : 4294967296 ≤ r + c
            all_goals
              try (have t2 : 4294967296 * r + n0 < p := by omega)
              clear t
              go_wp2
              first
                | (go_meet
                   case rel =>
                     have tb := Div.test_break HH2.out BB.out (by omega) (by omega)
                     obtain rfl : q = Div.quo Y R n0 := by omega
                     exact ⟨rfl, ⟨_, rfl⟩, rfl⟩)
                | exact ⟨⟨q, r + c, rfl, rfl, BB.out, by omega, by omega, by omega, by omega, by omega⟩, by simp [intOf]; omega⟩
        · have tn := Div.test_no HH2.out AA.out (by omega)
          obtain ⟨t1, t2⟩ := not_or.1 t
          clear t
          obtain ⟨p, hp⟩ : ∃ p, q * b = p := ⟨_, rfl⟩
          rw [hp] at tw t2
          obtain ⟨tw1, tw2⟩ := tw
          go_wp2
          go_meet
          case rel =>
            obtain rfl : q = Div.quo Y R n0 := by omega
            exact ⟨rfl, ⟨_, rfl⟩, rfl⟩
    case rest =>
      obtain ⟨rfl, ⟨r, rfl⟩, rfl⟩ := hcut
      go_wp2
      go_ret2
      rw [HR.out, HR2.out]
      exact ⟨rfl, rfl⟩
end Go.Proofs.YtgdmkcbbomfmdaaGreatDoor
