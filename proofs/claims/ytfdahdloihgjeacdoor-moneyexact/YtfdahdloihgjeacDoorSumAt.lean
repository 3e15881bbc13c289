/-
  Ours: the contract of money.Sum at the statements' own types.
-/
import Derived.Test.YtfdahdloihgjeacDoorSum
namespace Go.Proofs.YtfdahdloihgjeacDoor
open Go.RowKit

set_option maxHeartbeats 1000000 in
theorem sumCents_any (xs : List Int) (g o cap : Nat) (w : World) (hx : I64 xs) (hl : xs.length ≤ 1048576)
    (hc : ∀ i, i < xs.length → w.cell? ⟨g, o + i, none⟩ = some (.int .i64 (xs.getD i 0))) :
    Calls Tryd.prog 32 #[.slice (some ⟨g, o, none⟩) xs.length cap] w fun e w' => e = .returned (.tuple #[.int .i64 (smV (total xs)), .bool (smOk (total xs))]) ∧ w' = w := by
  obtain ⟨L, hL⟩ : ∃ L, xs.length = L := ⟨_, rfl⟩
  rw [hL] at hl hc ⊢
  obtain ⟨V, HV⟩ : ∃ V, Hid (smV (total xs) = V) := ⟨_, rfl⟩
  obtain ⟨K, HK⟩ : ∃ K, Hid (smOk (total xs) = K) := ⟨_, rfl⟩
  rw [HV.out, HK.out]
  have HL : Hid (xs.length = L) := hL
  clear hL
  go_enter Tryd.func32, Tryd.ntmps32
  go_wp2
  go_loop [4, 5, 6, 8, 9, 12] (fun hh ll _ _ _ ii => ∃ (k : Nat) (lo hi : Int), k ≤ L ∧ ii = .int .i64 (k : Int) ∧ hh = .int .u64 hi ∧ ll = .int .u64 lo ∧ lo = total (xs.take k) % 18446744073709551616 ∧ hi = total (xs.take k) / 18446744073709551616 % 18446744073709551616) (fun _ _ _ _ _ ii => L - (intOf ii).toNat)
  case atStart => exact ⟨0, 0, 0, by omega, rfl, rfl, rfl, by simp [total], by simp [total]⟩
  case round =>
    obtain ⟨k, lo, hi, hk, rfl, rfl, rfl, hlo, hhi⟩ := hrel
    by_cases hlt : (k : Int) < (L : Int)
    · have cx := hc k (by omega)
      have bx := hx k
      have ts := total_take_succ xs k (by rw [HL.out]; omega)
      have sl := Sum.low (total (xs.take k)) (xs.getD k 0)
      have sh := Sum.high (total (xs.take k)) (xs.getD k 0) bx.1 bx.2
      generalize xs.getD k 0 = n at *
      rw [← hlo] at sl
      rw [← hlo, ← hhi] at sh
      rw [← ts] at sl sh
      have lo0 : 0 ≤ lo := by omega
      have hi0 : 0 ≤ hi := by omega
      have lo1 : lo < 18446744073709551616 := by omega
      have a1 := fun w => add64 lo (IntKind.u64.wrap n) 0 lo0 (by rw [IntKind.wrap_u64]; omega) (by omega) (by omega) w
      have a2 := fun w => add64 hi (IntKind.u64.wrap (n / 9223372036854775808)) ((lo + n % 18446744073709551616 + 0) / 18446744073709551616) hi0 (by rw [IntKind.wrap_u64]; omega) (by omega) (by omega) w
      simp only [IntKind.wrap_u64] at a1 a2
      rw [sl] at a1
      rw [sh] at a2
      generalize hc1 : (lo + n % 18446744073709551616 + 0) / 18446744073709551616 = c1 at *
      have b0 : 0 ≤ total (xs.take (k + 1)) % 18446744073709551616 := by omega
      have b1 : total (xs.take (k + 1)) % 18446744073709551616 < 18446744073709551616 := by omega
      have b2 : 0 ≤ total (xs.take (k + 1)) / 18446744073709551616 % 18446744073709551616 := by omega
      obtain ⟨lo', HLO⟩ : ∃ x, Hid (total (xs.take (k + 1)) % 18446744073709551616 = x) := ⟨_, rfl⟩
      obtain ⟨hi', HHI⟩ : ∃ x, Hid (total (xs.take (k + 1)) / 18446744073709551616 % 18446744073709551616 = x) := ⟨_, rfl⟩
      rw [HLO.out] at a1
      rw [HHI.out] at a2
      obtain ⟨bx0, bx1⟩ := bx
      have wn : IntKind.u64.wrap n = n % 18446744073709551616 := IntKind.wrap_u64 n
      have wm : IntKind.u64.wrap (n / 9223372036854775808) = n / 9223372036854775808 % 18446744073709551616 := IntKind.wrap_u64 _
      clear sl sh hlo hhi ts hc1 hc b0 b1 b2
      go_wp2
      go_round
      case rel => exact ⟨k + 1, lo', hi', by omega, by go_num, rfl, rfl, HLO.out.symm, HHI.out.symm⟩
      case measure => simp [intOf]; omega
    · obtain rfl : k = L := by omega
      have tb := total_bound hx k (by rw [HL.out]; omega)
      rw [List.take_of_length_le (by rw [HL.out]; omega)] at hlo hhi tb
      have ft := Sum.fits (total xs) (by omega) (by omega)
      have vl := Sum.value (total xs)
      have ok : smOk (total xs) = decide (-9223372036854775808 ≤ total xs ∧ total xs ≤ 9223372036854775807) := rfl
      have wv : smV (total xs) = if smOk (total xs) then total xs else 0 := rfl
      have hv := HV.out
      have hk' := HK.out
      generalize total xs = s at *
      rw [← hlo, ← hhi] at ft
      rw [← hlo] at vl
      have lo0 : 0 ≤ lo := by omega
      have lo1 : lo < 18446744073709551616 := by omega
      have wm : IntKind.u64.wrap (wrap64 lo / 9223372036854775808) = wrap64 lo / 9223372036854775808 % 18446744073709551616 := IntKind.wrap_u64 _
      by_cases hs : -9223372036854775808 ≤ s ∧ s ≤ 9223372036854775807
      · have h1 : (hi != IntKind.u64.wrap (wrap64 lo / 9223372036854775808)) = false := by rw [wm, ft.2 hs]; simp
        have k1 : true = K := by rw [← hk', ok]; exact (decide_eq_true hs).symm
        have v1 : wrap64 lo = V := by rw [vl hs.1 hs.2, ← hv, wv, hk', ← k1]; simp
        have K1 : Hid (true = K) := k1
        have V1 : Hid (wrap64 lo = V) := v1
        clear ft vl ok wv hv hk' wm k1 v1 hlo hhi tb hc hs
        go_wp2
        go_ret2
        exact ⟨ret_vk V1.out K1.out, rfl⟩
      · have h1 : (hi != IntKind.u64.wrap (wrap64 lo / 9223372036854775808)) = true := by rw [wm, bne_iff_ne]; exact fun h => hs (ft.1 h)
        have k1 : false = K := by rw [← hk', ok]; exact (decide_eq_false hs).symm
        have v1 : 0 = V := by rw [← hv, wv, hk', ← k1]; simp
        have K1 : Hid (false = K) := k1
        have V1 : Hid (0 = V) := v1
        clear ft vl ok wv hv hk' wm k1 v1 hlo hhi tb hc hs
        go_wp2
        go_ret2
        exact ⟨ret_vk V1.out K1.out, rfl⟩

theorem sumCents_empty (a : Option Addr) (cap : Nat) (w : World) :
    Calls Tryd.prog 32 #[.slice a 0 cap] w fun e w' => e = .returned (.tuple #[.int .i64 (smV (total [])), .bool (smOk (total []))]) ∧ w' = w := by
  have e1 : smV (total []) = 0 := by decide
  have e2 : smOk (total []) = true := by decide
  rw [e1, e2]
  go_enter Tryd.func32, Tryd.ntmps32
  go_wp2
  go_loop [4, 5, 12] (fun hh ll ii => hh = .int .u64 0 ∧ ll = .int .u64 0 ∧ ii = .int .i64 0) (fun _ _ _ => 0)
  case atStart => exact ⟨rfl, rfl, rfl⟩
  case round =>
    obtain ⟨rfl, rfl, rfl⟩ := hrel
    go_wp2
    go_ret2
    exact ⟨rfl, rfl⟩

theorem sumCents_reads {w : World} {v : Value} {xs : List Int} (h : Reads w v xs) (hx : I64 xs) (hl : xs.length ≤ 1048576) :
    Calls Tryd.prog 32 #[v] w fun e w' => e = .returned (.tuple #[.int .i64 (smV (total xs)), .bool (smOk (total xs))]) ∧ w' = w := by
  rcases h with ⟨rfl, a, cap, rfl⟩ | ⟨_, g, o, cap, rfl, _, _, cell⟩
  · exact sumCents_empty a cap w
  · exact sumCents_any xs g o cap w hx hl cell

set_option maxHeartbeats 1000000 in
theorem sumCount_any (xs : List Int) (g o cap : Nat) (w : World) (hx : I64 xs) (hl : xs.length ≤ 1048576)
    (hc : ∀ i, i < xs.length → w.cell? ⟨g, o + i, none⟩ = some (.int .i64 (xs.getD i 0))) :
    Calls Tryd.prog 33 #[.slice (some ⟨g, o, none⟩) xs.length cap] w fun e w' => e = .returned (.tuple #[.int .i64 (smV (total xs)), .bool (smOk (total xs))]) ∧ w' = w := by
  obtain ⟨L, hL⟩ : ∃ L, xs.length = L := ⟨_, rfl⟩
  rw [hL] at hl hc ⊢
  obtain ⟨V, HV⟩ : ∃ V, Hid (smV (total xs) = V) := ⟨_, rfl⟩
  obtain ⟨K, HK⟩ : ∃ K, Hid (smOk (total xs) = K) := ⟨_, rfl⟩
  rw [HV.out, HK.out]
  have HL : Hid (xs.length = L) := hL
  clear hL
  go_enter Tryd.func33, Tryd.ntmps33
  go_wp2
  go_loop [4, 5, 6, 8, 9, 12] (fun hh ll _ _ _ ii => ∃ (k : Nat) (lo hi : Int), k ≤ L ∧ ii = .int .i64 (k : Int) ∧ hh = .int .u64 hi ∧ ll = .int .u64 lo ∧ lo = total (xs.take k) % 18446744073709551616 ∧ hi = total (xs.take k) / 18446744073709551616 % 18446744073709551616) (fun _ _ _ _ _ ii => L - (intOf ii).toNat)
  case atStart => exact ⟨0, 0, 0, by omega, rfl, rfl, rfl, by simp [total], by simp [total]⟩
  case round =>
    obtain ⟨k, lo, hi, hk, rfl, rfl, rfl, hlo, hhi⟩ := hrel
    by_cases hlt : (k : Int) < (L : Int)
    · have cx := hc k (by omega)
      have bx := hx k
      have ts := total_take_succ xs k (by rw [HL.out]; omega)
      have sl := Sum.low (total (xs.take k)) (xs.getD k 0)
      have sh := Sum.high (total (xs.take k)) (xs.getD k 0) bx.1 bx.2
      generalize xs.getD k 0 = n at *
      rw [← hlo] at sl
      rw [← hlo, ← hhi] at sh
      rw [← ts] at sl sh
      have lo0 : 0 ≤ lo := by omega
      have hi0 : 0 ≤ hi := by omega
      have lo1 : lo < 18446744073709551616 := by omega
      have a1 := fun w => add64 lo (IntKind.u64.wrap n) 0 lo0 (by rw [IntKind.wrap_u64]; omega) (by omega) (by omega) w
      have a2 := fun w => add64 hi (IntKind.u64.wrap (n / 9223372036854775808)) ((lo + n % 18446744073709551616 + 0) / 18446744073709551616) hi0 (by rw [IntKind.wrap_u64]; omega) (by omega) (by omega) w
      simp only [IntKind.wrap_u64] at a1 a2
      rw [sl] at a1
      rw [sh] at a2
      generalize hc1 : (lo + n % 18446744073709551616 + 0) / 18446744073709551616 = c1 at *
      have b0 : 0 ≤ total (xs.take (k + 1)) % 18446744073709551616 := by omega
      have b1 : total (xs.take (k + 1)) % 18446744073709551616 < 18446744073709551616 := by omega
      have b2 : 0 ≤ total (xs.take (k + 1)) / 18446744073709551616 % 18446744073709551616 := by omega
      obtain ⟨lo', HLO⟩ : ∃ x, Hid (total (xs.take (k + 1)) % 18446744073709551616 = x) := ⟨_, rfl⟩
      obtain ⟨hi', HHI⟩ : ∃ x, Hid (total (xs.take (k + 1)) / 18446744073709551616 % 18446744073709551616 = x) := ⟨_, rfl⟩
      rw [HLO.out] at a1
      rw [HHI.out] at a2
      obtain ⟨bx0, bx1⟩ := bx
      have wn : IntKind.u64.wrap n = n % 18446744073709551616 := IntKind.wrap_u64 n
      have wm : IntKind.u64.wrap (n / 9223372036854775808) = n / 9223372036854775808 % 18446744073709551616 := IntKind.wrap_u64 _
      clear sl sh hlo hhi ts hc1 hc b0 b1 b2
      go_wp2
      go_round
      case rel => exact ⟨k + 1, lo', hi', by omega, by go_num, rfl, rfl, HLO.out.symm, HHI.out.symm⟩
      case measure => simp [intOf]; omega
    · obtain rfl : k = L := by omega
      have tb := total_bound hx k (by rw [HL.out]; omega)
      rw [List.take_of_length_le (by rw [HL.out]; omega)] at hlo hhi tb
      have ft := Sum.fits (total xs) (by omega) (by omega)
      have vl := Sum.value (total xs)
      have ok : smOk (total xs) = decide (-9223372036854775808 ≤ total xs ∧ total xs ≤ 9223372036854775807) := rfl
      have wv : smV (total xs) = if smOk (total xs) then total xs else 0 := rfl
      have hv := HV.out
      have hk' := HK.out
      generalize total xs = s at *
      rw [← hlo, ← hhi] at ft
      rw [← hlo] at vl
      have lo0 : 0 ≤ lo := by omega
      have lo1 : lo < 18446744073709551616 := by omega
      have wm : IntKind.u64.wrap (wrap64 lo / 9223372036854775808) = wrap64 lo / 9223372036854775808 % 18446744073709551616 := IntKind.wrap_u64 _
      by_cases hs : -9223372036854775808 ≤ s ∧ s ≤ 9223372036854775807
      · have h1 : (hi != IntKind.u64.wrap (wrap64 lo / 9223372036854775808)) = false := by rw [wm, ft.2 hs]; simp
        have k1 : true = K := by rw [← hk', ok]; exact (decide_eq_true hs).symm
        have v1 : wrap64 lo = V := by rw [vl hs.1 hs.2, ← hv, wv, hk', ← k1]; simp
        have K1 : Hid (true = K) := k1
        have V1 : Hid (wrap64 lo = V) := v1
        clear ft vl ok wv hv hk' wm k1 v1 hlo hhi tb hc hs
        go_wp2
        go_ret2
        exact ⟨ret_vk V1.out K1.out, rfl⟩
      · have h1 : (hi != IntKind.u64.wrap (wrap64 lo / 9223372036854775808)) = true := by rw [wm, bne_iff_ne]; exact fun h => hs (ft.1 h)
        have k1 : false = K := by rw [← hk', ok]; exact (decide_eq_false hs).symm
        have v1 : 0 = V := by rw [← hv, wv, hk', ← k1]; simp
        have K1 : Hid (false = K) := k1
        have V1 : Hid (0 = V) := v1
        clear ft vl ok wv hv hk' wm k1 v1 hlo hhi tb hc hs
        go_wp2
        go_ret2
        exact ⟨ret_vk V1.out K1.out, rfl⟩

theorem sumCount_empty (a : Option Addr) (cap : Nat) (w : World) :
    Calls Tryd.prog 33 #[.slice a 0 cap] w fun e w' => e = .returned (.tuple #[.int .i64 (smV (total [])), .bool (smOk (total []))]) ∧ w' = w := by
  have e1 : smV (total []) = 0 := by decide
  have e2 : smOk (total []) = true := by decide
  rw [e1, e2]
  go_enter Tryd.func33, Tryd.ntmps33
  go_wp2
  go_loop [4, 5, 12] (fun hh ll ii => hh = .int .u64 0 ∧ ll = .int .u64 0 ∧ ii = .int .i64 0) (fun _ _ _ => 0)
  case atStart => exact ⟨rfl, rfl, rfl⟩
  case round =>
    obtain ⟨rfl, rfl, rfl⟩ := hrel
    go_wp2
    go_ret2
    exact ⟨rfl, rfl⟩

theorem sumCount_reads {w : World} {v : Value} {xs : List Int} (h : Reads w v xs) (hx : I64 xs) (hl : xs.length ≤ 1048576) :
    Calls Tryd.prog 33 #[v] w fun e w' => e = .returned (.tuple #[.int .i64 (smV (total xs)), .bool (smOk (total xs))]) ∧ w' = w := by
  rcases h with ⟨rfl, a, cap, rfl⟩ | ⟨_, g, o, cap, rfl, _, _, cell⟩
  · exact sumCount_empty a cap w
  · exact sumCount_any xs g o cap w hx hl cell

end Go.Proofs.YtfdahdloihgjeacDoor
