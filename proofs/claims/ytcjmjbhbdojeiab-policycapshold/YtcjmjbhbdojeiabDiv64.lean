/-
  Ours: the contract of math/bits.Div64, walked in its own pure Go text.
-/
import Derived.Test.YtcjmjbhbdojeiabSmall
import Derived.Test.YtcjmjbhbdojeiabDiv
import Derived.Deep.QuietTactic
import Derived.BigQuiet
import Derived.Deep.DeepCutAuto
import Derived.Deep.CutBlock
namespace Go.Proofs.Ytcjmjbhbdojeiab
open Go.RowKit

set_option maxHeartbeats 400000 in
theorem div64_low (lo y : Int) (h0 : 0 ≤ lo) (h1 : lo < 18446744073709551616) (y0 : 0 < y) (y1 : y < 18446744073709551616) (w : World) :
    Calls Try.prog 61 #[.int .u64 0, .int .u64 lo, .int .u64 y] w fun e w' => e = .returned (.tuple #[.int .u64 (lo / y), .int .u64 (lo % y)]) ∧ ∃ n, w' = w.drewN n := by
  have e0 : (y == 0) = false := by simp; omega
  have e1 : ¬ y = 0 := by omega
  go_enter Try.func61, Try.ntmps61
  go_wp2
  go_quiet (fail)
  go_wp2
  go_ret2
  exact ⟨rfl, _, rfl⟩

set_option maxHeartbeats 1000000 in
theorem div64_core (hi lo y s Y c b u v n1 n0 : Int) (k0 : 0 < hi) (y0 : hi < y)
   (s0 : 0 ≤ s) (s1 : s ≤ 63) (hY : IntKind.u64.wrap (y * 2 ^ s.toNat) = Y) (Y1 : Y < 18446744073709551616) (u64 : u < 18446744073709551616)
   (hc : Y / 4294967296 = c) (hb : bits BinOp.and .u64 Y 4294967295 = b)
   (hu : bits BinOp.or IntKind.u64 (IntKind.u64.wrap (hi * 2 ^ s.toNat)) (lo / 2 ^ (64 - s).toNat) = u)
   (hv : IntKind.u64.wrap (lo * 2 ^ s.toNat) = v) (hn1 : v / 4294967296 = n1) (hn0 : bits BinOp.and .u64 v 4294967295 = n0)
   (H1 : Div.Halves Y c b u n1) (n00 : 0 ≤ n0) (n01 : n0 < 4294967296)
   (_h0 : 0 ≤ lo) (_h1 : lo < 18446744073709551616)
   (hlz : ∀ w, Calls Try.prog 65 #[.int .u64 y] w fun e w' => e = .returned (.int .i64 s) ∧ w' = w) (w : World) :
    Calls Try.prog 61 #[.int .u64 hi, .int .u64 lo, .int .u64 y] w fun e w' =>
      e = .returned (.tuple #[.int .u64 (Div.quo Y u n1 * 4294967296 + Div.quo Y ((u * 4294967296 + n1) % Y) n0), .int .u64 ((((u * 4294967296 + n1) % Y * 4294967296 + n0) % Y) / 2 ^ s.toNat)]) ∧ w' = w := by
  have e0 : (y == 0) = false := by simp; omega
  have e1 : (hi == 0) = false := by simp; omega
  obtain ⟨g0, g1, g2, g3, g4⟩ := Div.guess_le H1
  have q0 := Div.quo_le_guess H1
  have c0 := H1.top; have c1 := H1.lt1; have b0 := H1.ge0; have b1 := H1.lt0; have u0 := H1.pos; have m0 := H1.smallp; have m1 := H1.small
  have HH : Hid (Div.Halves Y c b u n1) := H1
  clear H1
  have Hlz : Hid (∀ w, Calls Try.prog 65 #[.int .u64 y] w fun e w' => e = .returned (.int .i64 s) ∧ w' = w) := hlz
  clear hlz
  go_enter Try.func61, Try.ntmps61
  go_upto_block 0 with (go_at_call 65; refine (Hlz.out _).mono ?_; rintro e w' ⟨rfl, hw⟩; rw [hw]; clear hw w')
  go_cut [15, 16] (fun x1 x2 wx => x1 = .int .u64 (Div.quo Y u n1) ∧ (∃ r : Int, x2 = .int .u64 r) ∧ wx = w)
  case first =>
    go_wp2
    go_loop [15, 16] (fun x1 x2 => ∃ q r : Int, x1 = .int .u64 q ∧ x2 = .int .u64 r ∧ q * c + r = u ∧ Div.quo Y u n1 ≤ q ∧ 0 ≤ q ∧ q ≤ 4294967297 ∧ 0 ≤ r ∧ r < 4294967296) (fun x1 _ => (intOf x1).toNat)
    case atStart =>
      exact ⟨u / c, u - u / c * c, rfl, rfl, by omega, q0, g0, g1, by omega, by omega⟩
    case round =>
      obtain ⟨q, r, rfl, rfl, a1, a2, a3, a4, a5, a6⟩ := hrel
      have tw := Div.test_word HH.out a3 a4
      have AA : Hid (q * c + r = u) := a1
      clear a1
      by_cases t : 4294967296 ≤ q ∨ 4294967296 * r + n1 < q * b
      · have ty := Div.test_yes HH.out AA.out t
        obtain ⟨q, rfl⟩ : ∃ k, q = k + 1 := ⟨q - 1, by omega⟩
        have qn := Div.quo_nonneg HH.out
        have BB : Hid (q * c + (r + c) = u) := by have h := AA.out; rw [Int.add_mul, Int.one_mul] at h; show q * c + (r + c) = u; omega
        clear AA
        obtain ⟨p, hp⟩ : ∃ p, (q + 1) * b = p := ⟨_, rfl⟩
        rw [hp] at tw t
        obtain ⟨tw1, tw2⟩ := tw
        by_cases t1 : 4294967296 ≤ q + 1
        all_goals
          by_cases t3 : 4294967296 ≤ r + c
          all_goals
            try (have t2 : 4294967296 * r + n1 < p := by omega)
            clear t
            go_wp2
            first
              | (go_meet
                 case rel =>
                   have tb := Div.test_break HH.out BB.out (by omega) (by omega)
                   obtain rfl : q = Div.quo Y u n1 := by omega
                   exact ⟨rfl, ⟨_, rfl⟩, rfl⟩)
              | exact ⟨⟨q, r + c, rfl, rfl, BB.out, by omega, by omega, by omega, by omega, by omega⟩, by simp [intOf]; omega⟩
      · have tn := Div.test_no HH.out AA.out (by omega)
        obtain ⟨t1, t2⟩ := not_or.1 t
        clear t
        obtain ⟨p, hp⟩ : ∃ p, q * b = p := ⟨_, rfl⟩
        rw [hp] at tw t2
        obtain ⟨tw1, tw2⟩ := tw
        go_wp2
        go_meet
        case rel =>
          obtain rfl : q = Div.quo Y u n1 := by omega
          exact ⟨rfl, ⟨_, rfl⟩, rfl⟩
  case rest =>
    obtain ⟨rfl, ⟨r, rfl⟩, rfl⟩ := hcut
    have yp := Div.ypos HH.out
    have r0 : 0 ≤ (u * 4294967296 + n1) % Y := Int.emod_nonneg _ (by omega)
    have r1 : (u * 4294967296 + n1) % Y < Y := Int.emod_lt_of_pos _ yp
    have hR : IntKind.u64.wrap (IntKind.u64.wrap (IntKind.u64.wrap (u * 4294967296) + n1) - IntKind.u64.wrap (Div.quo Y u n1 * Y)) = (u * 4294967296 + n1) % Y := by
      have e := Div.rest_eq Y u n1
      simp only [IntKind.wrap_u64]
      omega
    obtain ⟨R, HR⟩ : ∃ R, Hid ((u * 4294967296 + n1) % Y = R) := ⟨_, rfl⟩
    rw [HR.out] at hR r0 r1
    have H2 : Div.Halves Y c b R n0 := ⟨HH.out.cut, c0, c1, b0, b1, r0, r1, n00, n01⟩
    obtain ⟨g0, g1, g2, g3, g4⟩ := Div.guess_le H2
    have q0 := Div.quo_le_guess H2
    have z0 := Div.quo_nonneg HH.out
    have z1 := Div.quo_lt HH.out
    have z2 := Div.quo_nonneg H2
    have z3 := Div.quo_lt H2
    have hR2 : IntKind.u64.wrap (IntKind.u64.wrap (IntKind.u64.wrap (R * 4294967296) + n0) - IntKind.u64.wrap (Div.quo Y R n0 * Y)) = (R * 4294967296 + n0) % Y := by
      have e := Div.rest_eq Y R n0
      have e1 : 0 ≤ (R * 4294967296 + n0) % Y := Int.emod_nonneg _ (by omega)
      have e2 : (R * 4294967296 + n0) % Y < Y := Int.emod_lt_of_pos _ yp
      simp only [IntKind.wrap_u64]
      omega
    have r2 : 0 ≤ (R * 4294967296 + n0) % Y := Int.emod_nonneg _ (by omega)
    obtain ⟨R2, HR2⟩ : ∃ R2, Hid ((R * 4294967296 + n0) % Y = R2) := ⟨_, rfl⟩
    rw [HR2.out] at hR2 r2
    have HH2 : Hid (Div.Halves Y c b R n0) := H2
    clear H2
    go_upto_block 2 with fail
    go_cut [18, 16] (fun x1 x2 wx => x1 = .int .u64 (Div.quo Y R n0) ∧ (∃ r : Int, x2 = .int .u64 r) ∧ wx = wc)
    case first =>
      clear hR hR2
      go_wp2
      go_loop [18, 16] (fun x1 x2 => ∃ q r : Int, x1 = .int .u64 q ∧ x2 = .int .u64 r ∧ q * c + r = R ∧ Div.quo Y R n0 ≤ q ∧ 0 ≤ q ∧ q ≤ 4294967297 ∧ 0 ≤ r ∧ r < 4294967296) (fun x1 _ => (intOf x1).toNat)
      case atStart =>
        exact ⟨R / c, R - R / c * c, rfl, rfl, by omega, q0, g0, g1, by omega, by omega⟩
      case round =>
        obtain ⟨q, r, rfl, rfl, a1, a2, a3, a4, a5, a6⟩ := hrel
        have tw := Div.test_word HH2.out a3 a4
        have AA : Hid (q * c + r = R) := a1
        clear a1
        by_cases t : 4294967296 ≤ q ∨ 4294967296 * r + n0 < q * b
        · have ty := Div.test_yes HH2.out AA.out t
          obtain ⟨q, rfl⟩ : ∃ k, q = k + 1 := ⟨q - 1, by omega⟩
          have BB : Hid (q * c + (r + c) = R) := by have h := AA.out; rw [Int.add_mul, Int.one_mul] at h; show q * c + (r + c) = R; omega
          clear AA
          obtain ⟨p, hp⟩ : ∃ p, (q + 1) * b = p := ⟨_, rfl⟩
          rw [hp] at tw t
          obtain ⟨tw1, tw2⟩ := tw
          by_cases t1 : 4294967296 ≤ q + 1
          all_goals
            by_cases t3 : 4294967296 ≤ r + c
            all_goals
              try (have t2 : 4294967296 * r + n0 < p := by omega)
              clear t
              go_wp2
              first
                | (go_meet
                   case rel =>
                     have tb := Div.test_break HH2.out BB.out (by omega) (by omega)
                     obtain rfl : q = Div.quo Y R n0 := by omega
                     exact ⟨rfl, ⟨_, rfl⟩, rfl⟩)
                | exact ⟨⟨q, r + c, rfl, rfl, BB.out, by omega, by omega, by omega, by omega, by omega⟩, by simp [intOf]; omega⟩
        · have tn := Div.test_no HH2.out AA.out (by omega)
          obtain ⟨t1, t2⟩ := not_or.1 t
          clear t
          obtain ⟨p, hp⟩ : ∃ p, q * b = p := ⟨_, rfl⟩
          rw [hp] at tw t2
          obtain ⟨tw1, tw2⟩ := tw
          go_wp2
          go_meet
          case rel =>
            obtain rfl : q = Div.quo Y R n0 := by omega
            exact ⟨rfl, ⟨_, rfl⟩, rfl⟩
    case rest =>
      obtain ⟨rfl, ⟨r, rfl⟩, rfl⟩ := hcut
      go_wp2
      go_ret2
      rw [HR.out, HR2.out]
      exact ⟨rfl, rfl⟩
end Go.Proofs.Ytcjmjbhbdojeiab
