/-
  Ours: the contract of arrearsref1.Sum; of arrearslaw1.same at two equal lists.
-/
import Derived.Test.YthepahhidmihmaaSum
import Derived.Deep.QuietTactic
import Derived.BigQuiet
namespace Go.Proofs.Ythepahhidmihmaa
open Go.RowKit

theorem high_any (x : Int) (w : World) :
    Calls Try.prog 17 #[.int .i64 x] w fun e w' => e = .returned (.int .i64 (x / 4294967296)) ∧ w' = w := by
  go_enter Try.func17, Try.ntmps17
  go_wp2
  go_ret
  exact ⟨rfl, rfl⟩
theorem lowOf_any (x : Int) (x0 : -9223372036854775808 ≤ x) (x1 : x ≤ 9223372036854775807) (w : World) :
    Calls Try.prog 18 #[.int .i64 x] w fun e w' => e = .returned (.int .i64 (x % 4294967296)) ∧ w' = w := by
  have e : x - x / 4294967296 * 4294967296 = x % 4294967296 := by omega
  have HH : Hid (∀ w, Calls Try.prog 17 #[.int .i64 x] w fun e w' => e = .returned (.int .i64 (x / 4294967296)) ∧ w' = w) := fun w => high_any x w
  go_enter Try.func18, Try.ntmps18
  go_wp2_with fail
  refine (HH.out _).mono ?_
  rintro e w1 ⟨rfl, hw⟩; rw [hw]; clear hw w1
  go_wp2_with fail
  go_ret
  exact ⟨rfl, rfl⟩
theorem joined_any (h l : Int) (h0 : -4611686018427387904 ≤ h) (h1 : h ≤ 4611686018427387904) (l0 : -4611686018427387904 ≤ l) (l1 : l ≤ 4611686018427387904) (w : World) :
    Calls Try.prog 19 #[.int .i64 h, .int .i64 l] w fun e w' => e = .returned (.tuple #[.int .i64 (smV (h * 4294967296 + l)), .bool (smOk (h * 4294967296 + l))]) ∧ w' = w := by
  by_cases c0 : h + l / 4294967296 < -2147483648
  · have e1 : smOk (h * 4294967296 + l) = false := by simp [smOk]; omega
    have e2 : smV (h * 4294967296 + l) = 0 := by simp [smV, e1]
    rw [e1, e2]
    clear e1 e2
    go_enter Try.func19, Try.ntmps19
    go_wp2
    go_ret2
    exact ⟨rfl, rfl⟩
  · have d0 : decide (h + l / 4294967296 < -2147483648) = false := decide_eq_false c0
    by_cases c1 : 2147483647 < h + l / 4294967296
    · have e1 : smOk (h * 4294967296 + l) = false := by simp [smOk]; omega
      have e2 : smV (h * 4294967296 + l) = 0 := by simp [smV, e1]
      rw [e1, e2]
      clear e1 e2
      go_enter Try.func19, Try.ntmps19
      go_wp2
      go_ret2
      exact ⟨rfl, rfl⟩
    · have e1 : smOk (h * 4294967296 + l) = true := by simp [smOk]; omega
      have e2 : smV (h * 4294967296 + l) = h * 4294967296 + l := by simp [smV, e1]
      rw [e1, e2]
      clear e1 e2
      go_enter Try.func19, Try.ntmps19
      go_wp2
      go_ret2
      exact ⟨ret_vk (by omega) rfl, rfl⟩

set_option maxHeartbeats 1000000 in
theorem rsum_any (xs : List Int) (g o cap : Nat) (w : World) (hx : I64 xs) (hl : xs.length ≤ 4194304)
    (hc : ∀ i, i < xs.length → w.cell? ⟨g, o + i, none⟩ = some (.int .i64 (xs.getD i 0))) :
    Calls Try.prog 16 #[.slice (some ⟨g, o, none⟩) xs.length cap] w fun e w' => e = .returned (.tuple #[.int .i64 (smV (total xs)), .bool (smOk (total xs))]) ∧ w' = w := by
  obtain ⟨L, hL⟩ : ∃ L, xs.length = L := ⟨_, rfl⟩
  rw [hL] at hl hc ⊢
  obtain ⟨V, HV⟩ : ∃ V, Hid (smV (total xs) = V) := ⟨_, rfl⟩
  obtain ⟨K, HK⟩ : ∃ K, Hid (smOk (total xs) = K) := ⟨_, rfl⟩
  rw [HV.out, HK.out]
  have HL : Hid (xs.length = L) := hL
  clear hL
  go_enter Try.func16, Try.ntmps16
  go_wp2
  go_loop [4, 5, 6] (fun hh ll ii => ∃ (k : Nat) (h l : Int), k ≤ L ∧ ii = .int .i64 (k : Int) ∧ hh = .int .i64 h ∧ ll = .int .i64 l ∧ h * 4294967296 + l = total (xs.take k) ∧ -(2147483648 * (k : Int)) ≤ h ∧ h ≤ 2147483648 * (k : Int) ∧ 0 ≤ l ∧ l ≤ 4294967296 * (k : Int)) (fun _ _ ii => L - (intOf ii).toNat)
  case atStart => exact ⟨0, 0, 0, by omega, rfl, rfl, rfl, by simp [total], by omega, by omega, by omega, by omega⟩
  case round =>
    obtain ⟨k, h, l, hk, rfl, rfl, rfl, hs, h0, h1, l0, l1⟩ := hrel
    by_cases hlt : (k : Int) < (L : Int)
    · have cx := hc k (by omega)
      have bx := hx k
      have ts := total_take_succ xs k (by rw [HL.out]; omega)
      generalize xs.getD k 0 = n at *
      have TS : Hid ((h + n / 4294967296) * 4294967296 + (l + n % 4294967296) = total (xs.take (k + 1))) := by
        show _ = _
        rw [ts, ← hs]; omega
      have HH : Hid (∀ w, Calls Try.prog 17 #[.int .i64 n] w fun e w' => e = .returned (.int .i64 (n / 4294967296)) ∧ w' = w) := fun w => high_any n w
      have LL : Hid (∀ w, Calls Try.prog 18 #[.int .i64 n] w fun e w' => e = .returned (.int .i64 (n % 4294967296)) ∧ w' = w) := fun w => lowOf_any n bx.1 bx.2 w
      obtain ⟨bx0, bx1⟩ := bx
      clear ts hs hc
      go_wp2_with fail
      refine (HH.out _).mono ?_
      rintro e w1 ⟨rfl, hw⟩; rw [hw]; clear hw w1
      go_wp2_with fail
      refine (LL.out _).mono ?_
      rintro e w1 ⟨rfl, hw⟩; rw [hw]; clear hw w1
      go_wp2_with fail
      go_round
      case rel => exact ⟨k + 1, _, _, by omega, by go_num, rfl, rfl, TS.out, by omega, by omega, by omega, by omega⟩
      case measure => simp [intOf]; omega
    · obtain rfl : k = L := by omega
      rw [List.take_of_length_le (by rw [HL.out]; omega)] at hs
      have J : Hid (∀ w, Calls Try.prog 19 #[.int .i64 h, .int .i64 l] w fun e w' => e = .returned (.tuple #[.int .i64 V, .bool K]) ∧ w' = w) := fun w => by
        have := joined_any h l (by omega) (by omega) (by omega) (by omega) w
        rw [hs, HV.out, HK.out] at this; exact this
      clear hs hc
      go_wp2_with fail
      refine (J.out _).mono ?_
      rintro e w1 ⟨rfl, hw⟩; rw [hw]; clear hw w1
      go_wp2_with fail
      go_ret2
      exact ⟨rfl, rfl⟩

theorem rsum_empty (a : Option Addr) (cap : Nat) (w : World) :
    Calls Try.prog 16 #[.slice a 0 cap] w fun e w' => e = .returned (.tuple #[.int .i64 (smV (total [])), .bool (smOk (total []))]) ∧ w' = w := by
  have J : Hid (∀ w, Calls Try.prog 19 #[.int .i64 0, .int .i64 0] w fun e w' => e = .returned (.tuple #[.int .i64 0, .bool true]) ∧ w' = w) := fun w => (joined_any 0 0 (by omega) (by omega) (by omega) (by omega) w).mono fun e w' ⟨he, hw⟩ => ⟨by rw [he]; exact ret_vk (by decide) (by decide), hw⟩
  have e1 : smV (total []) = 0 := by decide
  have e2 : smOk (total []) = true := by decide
  rw [e1, e2]
  go_enter Try.func16, Try.ntmps16
  go_wp2
  go_loop [4, 5, 6] (fun hh ll ii => hh = .int .i64 0 ∧ ll = .int .i64 0 ∧ ii = .int .i64 0) (fun _ _ _ => 0)
  case atStart => exact ⟨rfl, rfl, rfl⟩
  case round =>
    obtain ⟨rfl, rfl, rfl⟩ := hrel
    go_wp2_with fail
    refine (J.out _).mono ?_
    rintro e w1 ⟨rfl, hw⟩; rw [hw]; clear hw w1
    go_wp2_with fail
    go_ret2
    exact ⟨rfl, rfl⟩

theorem rsum_reads {w : World} {v : Value} {xs : List Int} (h : Reads w v xs) (hx : I64 xs) (hl : xs.length ≤ 4194304) :
    Calls Try.prog 16 #[v] w fun e w' => e = .returned (.tuple #[.int .i64 (smV (total xs)), .bool (smOk (total xs))]) ∧ w' = w := by
  rcases h with ⟨rfl, a, cap, rfl⟩ | ⟨_, g, o, cap, rfl, _, _, cell⟩
  · exact rsum_empty a cap w
  · exact rsum_any xs g o cap w hx hl cell

end Go.Proofs.Ythepahhidmihmaa
