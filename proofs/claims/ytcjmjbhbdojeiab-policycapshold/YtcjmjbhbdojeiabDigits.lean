/-
  Ours: the contract of arrearsref1.digits.
-/
import Derived.Test.YtcjmjbhbdojeiabProg
import Derived.Test.YtcjmjbhbdojeiabOwn
namespace Go.Proofs.Ytcjmjbhbdojeiab
open Go.RowKit

theorem Try.info3 : (Try.prog.info? 3).map (fun i => (i.zero, i.size, i.bytes)) = some (some (.int .i64 0), 1, 8) := by kernel_rfl

/-- The lowest n digits of m in base two, the lowest first. -/
def bin (m : Nat) : Nat → List Int
  | 0 => []
  | n + 1 => bin m n ++ [((m / 2 ^ n % 2 : Nat) : Int)]
theorem bin_length (m : Nat) : ∀ n, (bin m n).length = n
  | 0 => rfl
  | n + 1 => by simp [bin, bin_length m n]

set_option maxHeartbeats 1000000 in
theorem digits_any (m : Nat) (hm : m < 18446744073709551616) (w : World) :
    Calls Try.prog 36 #[.int .u64 (m : Int)] w fun e w' => ∃ v, e = .returned v ∧ Row 3 w.heap.size w' v (bin m 64) ∧ Below w.heap.size w w' := by
  obtain ⟨i0, hi, hz0, hz1, hz2⟩ := info_parts Try.info3
  go_enter Try.func36, Try.ntmps36
  go_wp2
  go_loopw [0, 3, 4] (fun a v i wr => ∃ k q : Nat, k ≤ 64 ∧ m / 2 ^ k = q ∧ a = .int .u64 (q : Int) ∧ i = .int .i64 (k : Int) ∧ Row 3 w.heap.size wr v (bin m k) ∧ Below w.heap.size w wr) (fun _ _ i _ => 64 - (intOf i).toNat)
  case atStart => exact ⟨0, m, by omega, by simp, rfl, rfl, Row.nil _ _ _, Below.refl _ _⟩
  case round =>
    obtain ⟨k, q, hk, hq, rfl, rfl, hown, hnx⟩ := hrel
    have q1 : (q : Int) < 18446744073709551616 := by have := Nat.div_le_self m (2 ^ k); omega
    have hl : (bin m k).length < 1099511627776 := by rw [bin_length]; omega
    have HQ : Hid (m / 2 ^ k = q) := hq
    clear hq
    by_cases hlt : (k : Int) < 64
    · have hsz := hnx.size
      go_wp2_with (at_builtin; refine wpList_push rfl (.tmp 9) (.tmp 13) 22 rfl 3 i0 Try.underlying22 hi hz0 hz1 hz2 w.heap.size w.heap.size w _ _ _ rfl hown hnx (Nat.le_refl _) hsz rfl hl ?_; intro v' w1 hown' hnx' hsz')
      go_roundw
      case rel =>
        refine ⟨k + 1, q / 2, by omega, ?_, by first | rfl | go_num, by go_num, ?_, hnx'⟩
        · rw [← HQ.out, Nat.div_div_eq_div_mul, Nat.pow_succ]
        · have e : ((m / 2 ^ k % 2 : Nat) : Int) = (q : Int) % 2 := by rw [HQ.out]; omega
          rw [bin, e]; exact hown'
      case measure => simp [intOf]; omega
    · go_wp2
      go_ret
      obtain rfl : k = 64 := by omega
      exact ⟨_, rfl, hown, hnx⟩

end Go.Proofs.Ytcjmjbhbdojeiab
