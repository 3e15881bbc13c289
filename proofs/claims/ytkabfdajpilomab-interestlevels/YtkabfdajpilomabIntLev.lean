/-
  Ours: the walks of InterestLeast and InterestCheaper.
-/
import Derived.Test.YtkabfdajpilomabIntPays
namespace Go.Proofs.Ytkabfdajpilomab
open Go.RowKit IntM

theorem grown_trans {a b c : World} (h : Grown a b) (k : Grown b c) : Grown a c :=
  ⟨World.keptBut_trans h.1 (World.keptBut_mono (fun _ f => f.elim) k.1), fun x => (k.2.1 x).trans (h.2.1 x), Nat.le_trans h.2.2 k.2.2⟩
theorem boxed_grown (P r : Int) (n m : Nat) (w : World) : Grown w ((boxed P r n w).drewN m) := (((Grown.refl w).alloc _ _).alloc _ _).alloc _ _

def lendB (P r n : Int) : Bool := decide (1 ≤ P ∧ P ≤ 10000000000000 ∧ 0 ≤ r ∧ r ≤ 100000 ∧ 1 ≤ n ∧ n ≤ 120)

theorem lending_at (P r n : Int) (b : Bool) (h : lendB P r n = b) (w : World) :
    Calls Try.prog 6 #[.int .i64 P, .int .i64 r, .int .i64 n] w fun e w' => e = .returned (.bool b) ∧ w' = w := by
  subst h
  unfold lendB
  go_enter Try.func6, Try.ntmps6
  go_wp2_with fail
  all_goals
    go_ret
    refine ⟨ret_boolI ?_, rfl⟩
    rw [Bool.eq_iff_iff]
    simp
    try omega

set_option maxHeartbeats 2000000 in
theorem lawPays_at (b r p : Int) (n : Nat) (b0 : 0 ≤ b) (b1 : b ≤ 9223372036854775807) (r0 : 0 ≤ r) (r1 : r ≤ 100000) (p0 : 0 ≤ p) (p1 : p ≤ 9223372036854775807) (n1 : n ≤ 120) (w : World) :
    Calls Try.prog 8 #[.int .i64 p, .int .i64 b, .int .i64 r, .int .i64 (n : Int)] w fun e w' => e = .returned (.bool (pays r p n b)) ∧ ∃ m, w' = w.drewN m := by
  go_enter Try.func8, Try.ntmps8
  go_wp2_with fail
  go_loopw [1, 9] (fun vb vk wr => ∃ (m k : Nat) (b' : Int), wr = w.drewN m ∧ vb = .int .i64 b' ∧ vk = .int .i64 (k : Int) ∧ k ≤ n ∧ 0 ≤ b' ∧ b' ≤ 9223372036854775807 ∧ Hid (pays r p n b = pays r p (n - k) b')) (fun _ vk _ => n - (intOf vk).toNat)
  case atStart => exact ⟨0, 0, b, rfl, rfl, rfl, by omega, b0, b1, rfl⟩
  case round =>
    obtain ⟨m, k, b', rfl, rfl, rfl, hk, c0, c1, hP⟩ := hrel
    by_cases hlt : (k : Int) < (n : Int)
    · obtain ⟨j, hj⟩ : ∃ j, n - k = j + 1 := ⟨n - k - 1, by omega⟩
      have hP' := hP.out
      rw [hj] at hP'
      clear hP
      have m0 := mon_nonneg c0 r0
      have m1 := mon_le c0 r1
      have hN := pays_never (r := r) (p := p) (b := b') j
      have hD := pays_done (r := r) (p := p) (b := b') j
      have hO := pays_on (r := r) (p := p) (b := b') j
      have MM : Hid (∀ w, Calls Try.prog 15 #[.int .i64 b', .int .i64 r] w fun e w' => e = .returned (.tuple #[.int .i64 (mon b' r), .bool true]) ∧ ∃ n, w' = w.drewN n) := fun w => month_at b' r c0 c1 r0 r1 w
      generalize mon b' r = i at *
      by_cases h1 : p - i ≤ 0
      · have hv := hP'.trans (hN h1)
        clear hN hD hO hP'
        have h1' : p ≤ i := by omega
        go_wp2_with fail
        refine (MM.out _).mono ?_
        rintro e w1 ⟨rfl, x, hw⟩; rw [hw]; clear hw w1
        go_wp2_with fail
        go_ret
        exact ⟨ret_boolI hv.symm, m + x, by simp⟩
      · have h1' : i < p := by omega
        by_cases h2 : b' ≤ p - i
        · have hv := hP'.trans (hD h1 h2)
          clear hN hD hO hP'
          go_wp2_with fail
          refine (MM.out _).mono ?_
          rintro e w1 ⟨rfl, x, hw⟩; rw [hw]; clear hw w1
          go_wp2_with fail
          go_ret
          exact ⟨ret_boolI hv.symm, m + x, by simp⟩
        · have HH : Hid (pays r p n b = pays r p (n - (k + 1)) (b' - (p - i))) := by
            show pays r p n b = pays r p (n - (k + 1)) (b' - (p - i))
            rw [hP', hO h1 h2, show n - (k + 1) = j by omega]
          clear hN hD hO hP'
          go_wp2_with fail
          refine (MM.out _).mono ?_
          rintro e w1 ⟨rfl, x, hw⟩; rw [hw]; clear hw w1
          go_wp2_with fail
          go_roundw
          case rel => exact ⟨m + x, k + 1, b' - (p - i), by simp, by go_num, by go_num, by omega, by omega, by omega, HH⟩
          case measure => simp [intOf]; omega
    · obtain rfl : k = n := by omega
      have hP' := hP.out
      rw [Nat.sub_self, pays_zero] at hP'
      clear hP
      go_wp2_with fail
      go_ret
      first
        | exact ⟨ret_boolI hP'.symm, m, rfl⟩
        | exact ⟨rfl, m, rfl⟩

set_option maxHeartbeats 1000000 in
theorem least_walk (P : Int) (_ : -9223372036854775808 ≤ P) (P1 : P ≤ 9223372036854775807) (r : Int) (_ : -9223372036854775808 ≤ r) (_ : r ≤ 9223372036854775807) (c : Int) (_ : -9223372036854775808 ≤ c) (_ : c ≤ 9223372036854775807) (w : World) :
    Calls Try.prog 4 #[.int .i64 P, .int .i64 r, .int .i64 c] w fun e w' => e = .returned (.bool true) ∧ Grown w w' := by
  have EA : Hid (∀ w, Calls Try.prog 6 #[.int .i64 P, .int .i64 r, .int .i64 c] w fun e w' => e = .returned (.bool (lendB P r c)) ∧ w' = w) := fun w => lending_at P r c _ rfl w
  cases he : lendB P r c
  · rw [he] at EA
    go_enter Try.func4, Try.ntmps4
    go_wp2_with fail
    refine (EA.out _).mono ?_
    rintro e w1 ⟨rfl, hw⟩; rw [hw]; clear hw w1
    go_wp2_with fail
    go_ret
    exact ⟨rfl, Grown.refl w⟩
  · rw [he] at EA
    obtain ⟨a0, a1, r0, r1, c0, c1⟩ := of_decide_eq_true he
    obtain ⟨n, rfl⟩ : ∃ n : Nat, c = ((n + 1 : Nat) : Int) := ⟨(c - 1).toNat, by omega⟩
    obtain ⟨p, hp, p1⟩ := lv_lend n a0 a1 r0 r1
    have hm := mon_le (by omega : 0 ≤ P) r1
    have LV : Hid (∀ w, Calls Try.prog 7 #[.int .i64 P, .int .i64 r, .int .i64 ((n + 1 : Nat) : Int)] w fun e w' => e = .returned (.tuple #[.int .i64 p, .bool true]) ∧ ∃ m, w' = (boxed P r (n + 1) w).drewN m) := fun w => level_at P r p (n + 1) a0 P1 r0 r1 (by omega) (by omega) hp w
    obtain ⟨p0, p2, hq⟩ := hp
    have PY : Hid (∀ w, Calls Try.prog 8 #[.int .i64 p, .int .i64 P, .int .i64 r, .int .i64 ((n + 1 : Nat) : Int)] w fun e w' => e = .returned (.bool true) ∧ ∃ m, w' = w.drewN m) := fun w => by
      have := lawPays_at P r p (n + 1) (by omega) P1 r0 r1 (by omega) (by omega) (by omega) w
      rw [hq, decide_eq_true (by omega)] at this
      exact this
    have PN : Hid (∀ w, Calls Try.prog 8 #[.int .i64 (p - 1), .int .i64 P, .int .i64 r, .int .i64 ((n + 1 : Nat) : Int)] w fun e w' => e = .returned (.bool false) ∧ ∃ m, w' = w.drewN m) := fun w => by
      have := lawPays_at P r (p - 1) (n + 1) (by omega) P1 r0 r1 (by omega) (by omega) (by omega) w
      rw [hq, decide_eq_false (by omega)] at this
      exact this
    clear hq he
    generalize hc : ((n + 1 : Nat) : Int) = c at *
    clear hc
    go_enter Try.func4, Try.ntmps4
    go_wp2_with fail
    refine (EA.out _).mono ?_
    rintro e w1 ⟨rfl, hw⟩; rw [hw]; clear hw w1
    go_wp2_with fail
    refine (LV.out _).mono ?_
    rintro e w1 ⟨rfl, m1, hw⟩
    have G1 : Grown w w1 := by rw [hw]; exact boxed_grown _ _ _ _ _
    clear hw
    go_wp2_with fail
    refine (PY.out _).mono ?_
    rintro e w2 ⟨rfl, m2, hw⟩; rw [hw]; clear hw w2
    go_wp2_with fail
    refine (PN.out _).mono ?_
    rintro e w2 ⟨rfl, m3, hw⟩; rw [hw]; clear hw w2
    go_wp2_with fail
    go_ret
    exact ⟨rfl, G1⟩
end Go.Proofs.Ytkabfdajpilomab
