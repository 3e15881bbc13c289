/-
  Ours: the walk of InterestDayByDay.
-/
import Derived.Test.YtkabfdajpilomaaIntTwo
namespace Go.Proofs.Ytkabfdajpilomaa
open Go.RowKit IntM

/-- The state behind k days: the sum and the rest, or beyond. -/
def DayRel (P r c : Int) (k s l : Int) (b : Bool) : Prop :=
  0 ≤ s ∧ s ≤ 9223372036854775807 ∧ l = cnt P r k c % 3650000 ∧ (b = false → s = cnt P r k c / 3650000) ∧ (b = true → 9223372036854775807 < cnt P r k c / 3650000)

theorem dayRel_next {P r c k s l : Int} {b : Bool} (h : DayRel P r c k s l b) : cnt P r (k + 1) c / 3650000 = cnt P r k c / 3650000 + cnt P r 1 l / 3650000 ∧ cnt P r (k + 1) c % 3650000 = cnt P r 1 l % 3650000 := by
  have := Two.add P r c k 1
  rw [← h.2.2.1] at this
  exact this

theorem daily_in {P r l : Int} (P0 : 0 ≤ P) (P1 : P ≤ 9223372036854775807) (r0 : 0 ≤ r) (r1 : r ≤ 100000) (l0 : 0 ≤ l) (l1 : l < 3650000) : 0 ≤ cnt P r 1 l ∧ cnt P r 1 l / 3650000 ≤ 9223372036854775807 := by
  unfold cnt
  rw [Int.mul_one]
  have h1 := Int.mul_nonneg P0 r0
  have h2 := Int.mul_le_mul P1 r1 r0 (by omega : (0 : Int) ≤ 9223372036854775807)
  omega

set_option maxHeartbeats 2000000 in
theorem days_in (P r c d : Int) (he : earnB P r c = true) (P1 : P ≤ 9223372036854775807) (d0 : 0 ≤ d) (d1 : d ≤ 400) (w : World) :
    Calls Try.prog 6 #[.int .i64 P, .int .i64 r, .int .i64 c, .int .i64 d] w fun e w' => e = .returned (.bool true) ∧ Grown w w' := by
  have EA : Hid (∀ w, Calls Try.prog 9 #[.int .i64 P, .int .i64 r, .int .i64 c] w fun e w' => e = .returned (.bool true) ∧ w' = w) := fun w => earning_at P r c _ he w
  have he := of_decide_eq_true he
  obtain ⟨P0, r0, r1, c0, c1⟩ := he
  have z0 : DayRel P r c 0 0 c false := by
    have e : cnt P r 0 c = c := by unfold cnt; rw [Int.mul_zero, Int.mul_zero, Int.zero_add]
    refine ⟨by omega, by omega, ?_, fun _ => ?_, fun h => by cases h⟩ <;> rw [e] <;> omega
  go_enter Try.func6, Try.ntmps6
  go_wp2_with fail
  refine (EA.out _).mono ?_
  rintro e w1 ⟨rfl, hw⟩; rw [hw]; clear hw w1
  go_wp2_with fail
  go_loopw [9, 10, 11, 12] (fun vs vb vl vk wr => Grown w wr ∧ ∃ (s l : Int) (b : Bool) (k : Nat), (k : Int) ≤ d ∧ vs = .int .i64 s ∧ vb = .bool b ∧ vl = .int .i64 l ∧ vk = .int .i64 (k : Int) ∧ DayRel P r c k s l b) (fun _ _ _ vk _ => d.toNat - (intOf vk).toNat)
  case atStart => exact ⟨Grown.refl w, 0, c, false, 0, by omega, rfl, rfl, rfl, rfl, z0⟩
  case round =>
    obtain ⟨hG, s, l, b, k, hk, rfl, rfl, rfl, rfl, hR⟩ := hrel
    obtain ⟨n1, n2⟩ := dayRel_next hR
    have hR' := hR
    obtain ⟨s0, s1, hl, hf, ht⟩ := hR
    have l0 : 0 ≤ l := by omega
    have l1 : l < 3650000 := by omega
    by_cases hlt : (k : Int) < d
    · obtain ⟨y0, y1⟩ := daily_in P0 P1 r0 r1 l0 l1
      have D := fun w => daily_any P r l P1 w
      obtain ⟨e1, e2, e3⟩ := sp_good (P := P) (r := r) (c := l) (d := 1) (by unfold spGood; omega) y1
      rw [e1, e2, e3] at D
      obtain ⟨q, hq⟩ : ∃ q, cnt P r 1 l / 3650000 = q := ⟨_, rfl⟩
      obtain ⟨t, hT⟩ : ∃ t, cnt P r 1 l % 3650000 = t := ⟨_, rfl⟩
      have q0 : 0 ≤ q := by omega
      rw [hq, hT] at D
      rw [hq] at n1 y1
      rw [hT] at n2
      have DD : Hid (∀ w, Calls Try.prog 13 #[.int .i64 P, .int .i64 r, .int .i64 l] w fun e w' => e = .returned (.tuple #[.int .i64 q, .int .i64 t, .bool true]) ∧ ∃ n, w' = w.drewN n) := D
      have n1' : cnt P r ((k + 1 : Nat) : Int) c / 3650000 = cnt P r k c / 3650000 + q := n1
      have n2' : cnt P r ((k + 1 : Nat) : Int) c % 3650000 = t := n2
      clear D e1 e2 e3 hq hT n1 n2
      by_cases hov : q ≤ 9223372036854775807 - s
      · have RN : Hid (DayRel P r c ((k + 1 : Nat) : Int) (s + q) t b) := ⟨by omega, by omega, n2'.symm, fun hb => by rw [n1', hf hb], fun hb => by rw [n1']; have := ht hb; omega⟩
        clear hf ht n1' n2' hR' hl z0
        go_wp2_with fail
        refine (DD.out _).mono ?_
        rintro e w1 ⟨rfl, n, hw⟩; rw [hw]; clear hw w1
        go_wp2_with fail
        go_roundw
        case rel => exact ⟨hG, s + q, t, b, k + 1, by omega, by go_num, rfl, rfl, by go_num, RN.out⟩
        case measure => simp [intOf]; omega
      · have hbig : 9223372036854775807 < cnt P r ((k + 1 : Nat) : Int) c / 3650000 := by
          rw [n1']
          cases hb : b
          · have := hf hb; omega
          · have := ht hb; omega
        have RN : Hid (DayRel P r c ((k + 1 : Nat) : Int) s t true) := ⟨s0, s1, n2'.symm, (fun hb => by cases hb), fun _ => hbig⟩
        clear hbig
        clear hf ht n1' n2' hR' hl z0
        go_wp2_with fail
        refine (DD.out _).mono ?_
        rintro e w1 ⟨rfl, n, hw⟩; rw [hw]; clear hw w1
        go_wp2_with fail
        go_roundw
        case rel => exact ⟨hG, s, t, true, k + 1, by omega, by go_num, rfl, rfl, by go_num, RN.out⟩
        case measure => simp [intOf]; omega
    · obtain rfl : (k : Int) = d := by omega
      clear n1 n2 hR'
      cases b with
      | true =>
        have B := fun w => span_big P r c k (by unfold spGood; omega) P1 (ht rfl) w
        have SS : Hid (∀ w, Calls Try.prog 10 #[.int .i64 P, .int .i64 r, .int .i64 c, .int .i64 (k : Int)] w fun e w' => e = .returned (.tuple #[.int .i64 0, .int .i64 0, .bool false]) ∧ ∃ n, w' = w.drewN n) := B
        clear B hf ht hl z0
        go_wp2_with fail
        refine (SS.out _).mono ?_
        rintro e w1 ⟨rfl, n, hw⟩; rw [hw]; clear hw w1
        go_wp2_with fail
        go_ret
        exact ⟨rfl, hG⟩
      | false =>
        have hs := hf rfl
        have B := fun w => span_yes P r c k (by unfold spGood; omega) P1 (by omega) w
        rw [← hs, ← hl] at B
        have SS : Hid (∀ w, Calls Try.prog 10 #[.int .i64 P, .int .i64 r, .int .i64 c, .int .i64 (k : Int)] w fun e w' => e = .returned (.tuple #[.int .i64 s, .int .i64 l, .bool true]) ∧ ∃ n, w' = w.drewN n) := B
        clear B hf ht hl hs z0
        go_wp2_with fail
        refine (SS.out _).mono ?_
        rintro e w1 ⟨rfl, n, hw⟩; rw [hw]; clear hw w1
        go_wp2_with fail
        go_ret
        exact ⟨rfl, hG⟩

theorem days_out (P r c d : Int) (h : ¬ (earnB P r c = true ∧ 0 ≤ d ∧ d ≤ 400)) (w : World) :
    Calls Try.prog 6 #[.int .i64 P, .int .i64 r, .int .i64 c, .int .i64 d] w fun e w' => e = .returned (.bool true) ∧ Grown w w' := by
  have EA : Hid (∀ w, Calls Try.prog 9 #[.int .i64 P, .int .i64 r, .int .i64 c] w fun e w' => e = .returned (.bool (earnB P r c)) ∧ w' = w) := fun w => earning_at P r c _ rfl w
  cases he : earnB P r c
  · rw [he] at EA
    clear h
    go_enter Try.func6, Try.ntmps6
    go_wp2_with fail
    refine (EA.out _).mono ?_
    rintro e w1 ⟨rfl, hw⟩; rw [hw]; clear hw w1
    go_wp2_with fail
    go_ret
    exact ⟨rfl, Grown.refl w⟩
  · rw [he] at EA
    by_cases hd : 0 ≤ d
    · have hd1 : 400 < d := Int.not_le.1 fun hh => h ⟨he, hd, hh⟩
      clear h
      go_enter Try.func6, Try.ntmps6
      go_wp2_with fail
      refine (EA.out _).mono ?_
      rintro e w1 ⟨rfl, hw⟩; rw [hw]; clear hw w1
      go_wp2_with fail
      go_ret
      exact ⟨rfl, Grown.refl w⟩
    · clear h
      go_enter Try.func6, Try.ntmps6
      go_wp2_with fail
      refine (EA.out _).mono ?_
      rintro e w1 ⟨rfl, hw⟩; rw [hw]; clear hw w1
      go_wp2_with fail
      go_ret
      exact ⟨rfl, Grown.refl w⟩

theorem days_walk (P : Int) (_ : -9223372036854775808 ≤ P) (P1 : P ≤ 9223372036854775807) (r : Int) (_ : -9223372036854775808 ≤ r) (_ : r ≤ 9223372036854775807) (c : Int) (_ : -9223372036854775808 ≤ c) (_ : c ≤ 9223372036854775807)
    (d : Int) (_ : -9223372036854775808 ≤ d) (_ : d ≤ 9223372036854775807) (w : World) :
    Calls Try.prog 6 #[.int .i64 P, .int .i64 r, .int .i64 c, .int .i64 d] w fun e w' => e = .returned (.bool true) ∧ Grown w w' := by
  by_cases h : earnB P r c = true ∧ 0 ≤ d ∧ d ≤ 400
  · exact days_in P r c d h.1 P1 h.2.1 h.2.2 w
  · exact days_out P r c d h w
end Go.Proofs.Ytkabfdajpilomaa
