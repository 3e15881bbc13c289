/-
  Ours: the reference's PaysOff and Level.
-/
import Derived.Test.YtkabfdajpilomabDoorIntRefM
namespace Go.Proofs.YtkabfdajpilomabDoor
open Go.RowKit IntM

set_option maxHeartbeats 2000000 in
theorem refPays_at (b r p : Int) (n : Nat) (b0 : 0 ≤ b) (b1 : b ≤ 9223372036854775807) (r0 : 0 ≤ r) (r1 : r ≤ 100000) (p0 : 0 ≤ p) (p1 : p ≤ 9223372036854775807) (n1 : n ≤ 120) (w : World) :
    Calls Tryd.prog 51 #[.int .i64 p, .int .i64 b, .int .i64 r, .int .i64 (n : Int)] w fun e w' => e = .returned (.bool (pays r p n b)) ∧ w' = w := by
  go_enter Tryd.func51, Tryd.ntmps51
  go_wp2_with fail
  go_loopw [1, 9] (fun vb vk wr => wr = w ∧ ∃ (k : Nat) (b' : Int), vb = .int .i64 b' ∧ vk = .int .i64 (k : Int) ∧ k ≤ n ∧ 0 ≤ b' ∧ b' ≤ 9223372036854775807 ∧ Hid (pays r p n b = pays r p (n - k) b')) (fun _ vk _ => n - (intOf vk).toNat)
  case atStart => exact ⟨rfl, 0, b, rfl, rfl, by omega, b0, b1, rfl⟩
  case round =>
    obtain ⟨rfl, k, b', rfl, rfl, hk, c0, c1, hP⟩ := hrel
    by_cases hlt : (k : Int) < (n : Int)
    · obtain ⟨j, hj⟩ : ∃ j, n - k = j + 1 := ⟨n - k - 1, by omega⟩
      have hP' := hP.out
      rw [hj] at hP'
      clear hP
      have m0 := mon_nonneg c0 r0
      have m1 := mon_le c0 r1
      have hN := pays_never (r := r) (p := p) (b := b') j
      have hD := pays_done (r := r) (p := p) (b := b') j
      have hO := pays_on (r := r) (p := p) (b := b') j
      have MM : Hid (∀ w, Calls Tryd.prog 35 #[.int .i64 b', .int .i64 r] w fun e w' => e = .returned (.int .i64 (mon b' r)) ∧ w' = w) := fun w => refmonth_at b' r c0 c1 r0 r1 w
      generalize mon b' r = i at *
      by_cases h1 : p - i ≤ 0
      · have hv := hP'.trans (hN h1)
        clear hN hD hO hP'
        have h1' : p ≤ i := by omega
        go_wp2_with fail
        refine (MM.out _).mono ?_
        rintro e w1 ⟨rfl, hw⟩; rw [hw]; clear hw w1
        go_wp2_with fail
        go_ret
        exact ⟨ret_boolI hv.symm, rfl⟩
      · have h1' : i < p := by omega
        by_cases h2 : b' ≤ p - i
        · have hv := hP'.trans (hD h1 h2)
          clear hN hD hO hP'
          go_wp2_with fail
          refine (MM.out _).mono ?_
          rintro e w1 ⟨rfl, hw⟩; rw [hw]; clear hw w1
          go_wp2_with fail
          go_ret
          exact ⟨ret_boolI hv.symm, rfl⟩
        · have HH : Hid (pays r p n b = pays r p (n - (k + 1)) (b' - (p - i))) := by
            show pays r p n b = pays r p (n - (k + 1)) (b' - (p - i))
            rw [hP', hO h1 h2, show n - (k + 1) = j by omega]
          clear hN hD hO hP'
          go_wp2_with fail
          refine (MM.out _).mono ?_
          rintro e w1 ⟨rfl, hw⟩; rw [hw]; clear hw w1
          go_wp2_with fail
          go_roundw
          case rel => exact ⟨trivial, k + 1, b' - (p - i), by go_num, by go_num, by omega, by omega, by omega, HH⟩
          case measure => simp [intOf]; omega
    · obtain rfl : k = n := by omega
      have hP' := hP.out
      rw [Nat.sub_self, pays_zero] at hP'
      clear hP
      go_wp2_with fail
      go_ret
      first
        | exact ⟨ret_boolI hP'.symm, rfl⟩
        | exact ⟨rfl, rfl⟩

/-- The reference's descent: how far above the least payment it may still be. -/
def Near2 (p q s : Int) : Prop := p ≤ q ∧ q ≤ 9223372036854775807 ∧ ((s = 0 ∧ q = p) ∨ ∃ j : Nat, j ≤ 62 ∧ s = ((2 ^ j : Nat) : Int) ∧ q < p + 2 * s)
theorem near2_next {p q s : Int} (h : Near2 p q s) (hs : 0 < s) : ∃ j : Nat, 1 ≤ s ∧ s ≤ 4611686018427387904 ∧ (j = 0 ∧ s / 2 = 0 ∧ s = 1 ∨ ∃ i : Nat, j = i + 1 ∧ i ≤ 62 ∧ s / 2 = ((2 ^ i : Nat) : Int) ∧ s = 2 * ((2 ^ i : Nat) : Int)) := by
  obtain ⟨_, _, h | ⟨j, hj, e, _⟩⟩ := h
  · omega
  · refine ⟨j, by omega, ?_, ?_⟩
    · have : 2 ^ j ≤ 2 ^ 62 := Nat.pow_le_pow_right (by omega) hj
      omega
    · cases j with
      | zero => left; rw [e]; decide
      | succ i =>
        right
        have : (2 : Nat) ^ (i + 1) = 2 * 2 ^ i := by rw [Nat.pow_succ, Nat.mul_comm]
        exact ⟨i, rfl, by omega, by omega, by omega⟩
theorem near2_take {p q s : Int} (h : Near2 p q s) (hs : 0 < s) (hq : p ≤ q - s) : Near2 p (q - s) (s / 2) := by
  obtain ⟨j, s1, s2, hj⟩ := near2_next h hs
  obtain ⟨a, b, hc | ⟨k, hk, e, f⟩⟩ := h
  · omega
  · refine ⟨hq, by omega, ?_⟩
    rcases hj with ⟨_, h2, h3⟩ | ⟨i, _, h1, h2, h3⟩
    · left; omega
    · right; exact ⟨i, h1, h2, by omega⟩
theorem near2_leave {p q s : Int} (h : Near2 p q s) (hs : 0 < s) (hq : q - s < p) : Near2 p q (s / 2) := by
  obtain ⟨j, s1, s2, hj⟩ := near2_next h hs
  obtain ⟨a, b, hc | ⟨k, hk, e, f⟩⟩ := h
  · omega
  · refine ⟨a, b, ?_⟩
    rcases hj with ⟨_, h2, h3⟩ | ⟨i, _, h1, h2, h3⟩
    · left; omega
    · right; exact ⟨i, h1, h2, by omega⟩

set_option maxHeartbeats 2000000 in
theorem refLevel_at (P r p : Int) (n : Nat) (P0 : 1 ≤ P) (P1 : P ≤ 9223372036854775807) (r0 : 0 ≤ r) (r1 : r ≤ 100000) (n0 : 1 ≤ n) (n1 : n ≤ 120) (hp : Lv P r n p) (w : World) :
    Calls Tryd.prog 34 #[.int .i64 P, .int .i64 r, .int .i64 (n : Int)] w fun e w' => e = .returned (.tuple #[.int .i64 p, .bool true]) ∧ w' = w := by
  have IR : Hid (∀ w, Calls Tryd.prog 50 #[.int .i64 r] w fun e w' => e = .returned (.bool true) ∧ w' = w) := fun w => refRate_at r true (decide_eq_true ⟨r0, r1⟩) w
  have hn : (1 : Int) ≤ (n : Int) := by omega
  have hn2 : (n : Int) ≤ 120 := by omega
  obtain ⟨p0, p1, hq⟩ := hp
  have CL : Hid (∀ (q : Int) (w : World), 0 ≤ q → q ≤ 9223372036854775807 → Calls Tryd.prog 51 #[.int .i64 q, .int .i64 P, .int .i64 r, .int .i64 (n : Int)] w fun e w' => e = .returned (.bool (decide (p ≤ q))) ∧ w' = w) := fun q w h0 h1 => by
    have := refPays_at P r q n (by omega) P1 r0 r1 h0 h1 n1 w
    rw [hq] at this
    exact this
  clear hq
  generalize (n : Int) = c at *
  go_enter Tryd.func34, Tryd.ntmps34
  go_wp2_with fail
  refine (IR.out _).mono ?_
  rintro e w1 ⟨rfl, hw⟩; rw [hw]; clear hw w1
  go_wp2_with fail
  refine (CL.out 9223372036854775807 w (by omega) (by omega)).mono ?_
  rintro e w1 ⟨rfl, hw⟩; rw [hw, decide_eq_true p1]; clear hw w1
  go_wp2_with fail
  go_loopw [8, 9] (fun vq vs wr => wr = w ∧ ∃ q s : Int, vq = .int .i64 q ∧ vs = .int .i64 s ∧ Near2 p q s) (fun _ vs _ => (intOf vs).toNat)
  case atStart => exact ⟨rfl, 9223372036854775807, 4611686018427387904, rfl, rfl, by omega, by omega, Or.inr ⟨62, by omega, by decide, by omega⟩⟩
  case round =>
    obtain ⟨rfl, q, s, rfl, rfl, hN⟩ := hrel
    by_cases hs : 0 < s
    · obtain ⟨_, s1, s2, _⟩ := near2_next hN hs
      have q0 := hN.1
      have q1 := hN.2.1
      by_cases hc : p ≤ q - s
      · have NN : Hid (Near2 p (q - s) (s / 2)) := near2_take hN hs hc
        clear hN
        have hqs : s < q := by omega
        go_wp2_with fail
        refine (CL.out (q - s) _ (by omega) (by omega)).mono ?_
        rintro e w1 ⟨rfl, hw⟩; rw [hw, decide_eq_true hc]; clear hw w1
        go_wp2_with fail
        go_roundw
        case rel => exact ⟨trivial, q - s, s / 2, rfl, rfl, NN.out⟩
        case measure => simp [intOf]; omega
      · have NN : Hid (Near2 p q (s / 2)) := near2_leave hN hs (by omega)
        clear hN
        by_cases hqs : s < q
        · go_wp2_with fail
          refine (CL.out (q - s) _ (by omega) (by omega)).mono ?_
          rintro e w1 ⟨rfl, hw⟩; rw [hw, decide_eq_false (by omega)]; clear hw w1
          go_wp2_with fail
          go_roundw
          case rel => exact ⟨trivial, q, s / 2, rfl, rfl, NN.out⟩
          case measure => simp [intOf]; omega
        · go_wp2_with fail
          go_roundw
          case rel => exact ⟨trivial, q, s / 2, rfl, rfl, NN.out⟩
          case measure => simp [intOf]; omega
    · have hq : q = p := by
        obtain ⟨_, _, h | ⟨j, _, e, _⟩⟩ := hN
        · exact h.2
        · have : 0 < 2 ^ j := Nat.pow_pos (by omega)
          omega
      subst hq
      clear hN
      go_wp2_with fail
      go_ret2
      exact ⟨rfl, rfl⟩

end Go.Proofs.YtkabfdajpilomabDoor
