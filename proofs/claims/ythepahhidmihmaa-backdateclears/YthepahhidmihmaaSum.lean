/-
  Ours: the contract of money.Sum[int64], of arrearslaw1.copied.
-/
import Derived.Test.YthepahhidmihmaaProg
import Derived.Test.YthepahhidmihmaaOwn
import Derived.Laws.Externs
import Derived.Laws.Bits64
namespace Go.Proofs.Ythepahhidmihmaa
open Go.RowKit

theorem ret_vk {k : IntKind} {a V : Int} {b K : Bool} (h : a = V) (h' : b = K) : Ending.returned (.tuple #[.int k a, .bool b]) = .returned (.tuple #[.int k V, .bool K]) := by rw [h, h']

theorem add64 (x y c : Int) (x0 : 0 ≤ x) (y0 : 0 ≤ y) (c0 : 0 ≤ c) (c1 : c ≤ 1) (w : World) :
    (callFunc 14 #[.int .u64 x, .int .u64 y, .int .u64 c]).run Try.prog w =
      .ok (.value (.tuple #[.int .u64 ((x + y + c) % 18446744073709551616), .int .u64 ((x + y + c) / 18446744073709551616)])) w := by
  rw [run_callFunc_extern Try.func14 (by kernel_rfl) (by kernel_rfl) (by kernel_rfl) (e := add64Entry) (by kernel_rfl)]
  rw [run_add64 x y c x0 y0 c0 c1]
  rfl

/-- The exact sum. -/
def total : List Int → Int
  | [] => 0
  | x :: r => x + total r
theorem total_append : ∀ xs ys : List Int, total (xs ++ ys) = total xs + total ys
  | [], ys => by simp [total]
  | x :: r, ys => by simp only [List.cons_append, total, total_append r ys]; omega
theorem total_push (xs : List Int) (x : Int) : total (xs ++ [x]) = total xs + x := by rw [total_append]; simp [total]
theorem total_take_succ (xs : List Int) (k : Nat) (h : k < xs.length) : total (xs.take (k + 1)) = total (xs.take k) + xs.getD k 0 := by
  rw [List.take_add_one, List.getElem?_eq_getElem h, Option.toList_some, total_push]
  simp [List.getD_eq_getElem?_getD, List.getElem?_eq_getElem h]
theorem total_reverse : ∀ xs : List Int, total xs.reverse = total xs
  | [] => rfl
  | x :: r => by rw [List.reverse_cons, total_push, total_reverse r]; simp only [total]; omega

/-- Every entry is an int64. -/
def I64 (xs : List Int) : Prop := ∀ k, -9223372036854775808 ≤ xs.getD k 0 ∧ xs.getD k 0 ≤ 9223372036854775807
theorem total_bound {xs : List Int} (h : I64 xs) : ∀ k, k ≤ xs.length → -(9223372036854775808 * (k : Int)) ≤ total (xs.take k) ∧ total (xs.take k) ≤ 9223372036854775808 * (k : Int)
  | 0, _ => by simp [total]
  | k + 1, hk => by
    have := total_bound h k (by omega)
    have := h k
    rw [total_take_succ xs k (by omega)]
    omega
def smOk (s : Int) : Bool := decide (-9223372036854775808 ≤ s ∧ s ≤ 9223372036854775807)
def smV (s : Int) : Int := if smOk s then s else 0

namespace Sum
theorem low (s n : Int) : (s % 18446744073709551616 + n % 18446744073709551616 + 0) % 18446744073709551616 = (s + n) % 18446744073709551616 := by omega
theorem high (s n : Int) (h0 : -9223372036854775808 ≤ n) (h1 : n ≤ 9223372036854775807) :
    (s / 18446744073709551616 % 18446744073709551616 + n / 9223372036854775808 % 18446744073709551616 + (s % 18446744073709551616 + n % 18446744073709551616 + 0) / 18446744073709551616) % 18446744073709551616 = (s + n) / 18446744073709551616 % 18446744073709551616 := by
  have e : (s + n) / 18446744073709551616 = s / 18446744073709551616 + n / 9223372036854775808 + (s % 18446744073709551616 + n % 18446744073709551616 + 0) / 18446744073709551616 := by
    by_cases h : n < 0
    · rw [show n / 9223372036854775808 = -1 from by omega, show n % 18446744073709551616 = n + 18446744073709551616 from by omega]; omega
    · rw [show n / 9223372036854775808 = 0 from by omega, show n % 18446744073709551616 = n from by omega]; omega
  rw [e]
  generalize s / 18446744073709551616 = a
  generalize n / 9223372036854775808 = b
  generalize (s % 18446744073709551616 + n % 18446744073709551616 + 0) / 18446744073709551616 = c
  omega
theorem fits (s : Int) (h0 : -85070591730234615865843651857942052864 ≤ s) (h1 : s ≤ 85070591730234615865843651857942052864) :
    (s / 18446744073709551616 % 18446744073709551616 = wrap64 (s % 18446744073709551616) / 9223372036854775808 % 18446744073709551616 ↔ -9223372036854775808 ≤ s ∧ s ≤ 9223372036854775807) := by
  unfold wrap64
  have l := Int.mul_ediv_add_emod s 18446744073709551616
  have l0 : 0 ≤ s % 18446744073709551616 := by omega
  have l1 : s % 18446744073709551616 < 18446744073709551616 := by omega
  have b0 : -4611686018427387904 ≤ s / 18446744073709551616 := by omega
  have b1 : s / 18446744073709551616 ≤ 4611686018427387904 := by omega
  generalize s / 18446744073709551616 = a at *
  generalize s % 18446744073709551616 = b at *
  by_cases hb : b < 9223372036854775808
  · rw [show (b + 9223372036854775808) % 18446744073709551616 - 9223372036854775808 = b from by omega, show b / 9223372036854775808 = 0 from by omega]
    omega
  · rw [show (b + 9223372036854775808) % 18446744073709551616 - 9223372036854775808 = b - 18446744073709551616 from by omega, show (b - 18446744073709551616) / 9223372036854775808 = -1 from by omega]
    omega
theorem value (s : Int) (h0 : -9223372036854775808 ≤ s) (h1 : s ≤ 9223372036854775807) : wrap64 (s % 18446744073709551616) = s := by
  unfold wrap64; omega
end Sum

set_option maxHeartbeats 1000000 in
theorem sum_any (xs : List Int) (g o cap : Nat) (w : World) (hx : I64 xs) (hl : xs.length ≤ 1048576)
    (hc : ∀ i, i < xs.length → w.cell? ⟨g, o + i, none⟩ = some (.int .i64 (xs.getD i 0))) :
    Calls Try.prog 8 #[.slice (some ⟨g, o, none⟩) xs.length cap] w fun e w' => e = .returned (.tuple #[.int .i64 (smV (total xs)), .bool (smOk (total xs))]) ∧ w' = w := by
  obtain ⟨L, hL⟩ : ∃ L, xs.length = L := ⟨_, rfl⟩
  rw [hL] at hl hc ⊢
  obtain ⟨V, HV⟩ : ∃ V, Hid (smV (total xs) = V) := ⟨_, rfl⟩
  obtain ⟨K, HK⟩ : ∃ K, Hid (smOk (total xs) = K) := ⟨_, rfl⟩
  rw [HV.out, HK.out]
  have HL : Hid (xs.length = L) := hL
  clear hL
  go_enter Try.func8, Try.ntmps8
  go_wp2
  go_loop [4, 5, 6, 8, 9, 12] (fun hh ll _ _ _ ii => ∃ (k : Nat) (lo hi : Int), k ≤ L ∧ ii = .int .i64 (k : Int) ∧ hh = .int .u64 hi ∧ ll = .int .u64 lo ∧ lo = total (xs.take k) % 18446744073709551616 ∧ hi = total (xs.take k) / 18446744073709551616 % 18446744073709551616) (fun _ _ _ _ _ ii => L - (intOf ii).toNat)
  case atStart => exact ⟨0, 0, 0, by omega, rfl, rfl, rfl, by simp [total], by simp [total]⟩
  case round =>
    obtain ⟨k, lo, hi, hk, rfl, rfl, rfl, hlo, hhi⟩ := hrel
    by_cases hlt : (k : Int) < (L : Int)
    · have cx := hc k (by omega)
      have bx := hx k
      have ts := total_take_succ xs k (by rw [HL.out]; omega)
      have sl := Sum.low (total (xs.take k)) (xs.getD k 0)
      have sh := Sum.high (total (xs.take k)) (xs.getD k 0) bx.1 bx.2
      generalize xs.getD k 0 = n at *
      rw [← hlo] at sl
      rw [← hlo, ← hhi] at sh
      rw [← ts] at sl sh
      have lo0 : 0 ≤ lo := by omega
      have hi0 : 0 ≤ hi := by omega
      have lo1 : lo < 18446744073709551616 := by omega
      have a1 := fun w => add64 lo (IntKind.u64.wrap n) 0 lo0 (by rw [IntKind.wrap_u64]; omega) (by omega) (by omega) w
      have a2 := fun w => add64 hi (IntKind.u64.wrap (n / 9223372036854775808)) ((lo + n % 18446744073709551616 + 0) / 18446744073709551616) hi0 (by rw [IntKind.wrap_u64]; omega) (by omega) (by omega) w
      simp only [IntKind.wrap_u64] at a1 a2
      rw [sl] at a1
      rw [sh] at a2
      generalize hc1 : (lo + n % 18446744073709551616 + 0) / 18446744073709551616 = c1 at *
      have b0 : 0 ≤ total (xs.take (k + 1)) % 18446744073709551616 := by omega
      have b1 : total (xs.take (k + 1)) % 18446744073709551616 < 18446744073709551616 := by omega
      have b2 : 0 ≤ total (xs.take (k + 1)) / 18446744073709551616 % 18446744073709551616 := by omega
      obtain ⟨lo', HLO⟩ : ∃ x, Hid (total (xs.take (k + 1)) % 18446744073709551616 = x) := ⟨_, rfl⟩
      obtain ⟨hi', HHI⟩ : ∃ x, Hid (total (xs.take (k + 1)) / 18446744073709551616 % 18446744073709551616 = x) := ⟨_, rfl⟩
      rw [HLO.out] at a1
      rw [HHI.out] at a2
      obtain ⟨bx0, bx1⟩ := bx
      have wn : IntKind.u64.wrap n = n % 18446744073709551616 := IntKind.wrap_u64 n
      have wm : IntKind.u64.wrap (n / 9223372036854775808) = n / 9223372036854775808 % 18446744073709551616 := IntKind.wrap_u64 _
      clear sl sh hlo hhi ts hc1 hc b0 b1 b2
      go_wp2
      go_round
      case rel => exact ⟨k + 1, lo', hi', by omega, by go_num, rfl, rfl, HLO.out.symm, HHI.out.symm⟩
      case measure => simp [intOf]; omega
    · obtain rfl : k = L := by omega
      have tb := total_bound hx k (by rw [HL.out]; omega)
      rw [List.take_of_length_le (by rw [HL.out]; omega)] at hlo hhi tb
      have ft := Sum.fits (total xs) (by omega) (by omega)
      have vl := Sum.value (total xs)
      have ok : smOk (total xs) = decide (-9223372036854775808 ≤ total xs ∧ total xs ≤ 9223372036854775807) := rfl
      have wv : smV (total xs) = if smOk (total xs) then total xs else 0 := rfl
      have hv := HV.out
      have hk' := HK.out
      generalize total xs = s at *
      rw [← hlo, ← hhi] at ft
      rw [← hlo] at vl
      have lo0 : 0 ≤ lo := by omega
      have lo1 : lo < 18446744073709551616 := by omega
      have wm : IntKind.u64.wrap (wrap64 lo / 9223372036854775808) = wrap64 lo / 9223372036854775808 % 18446744073709551616 := IntKind.wrap_u64 _
      by_cases hs : -9223372036854775808 ≤ s ∧ s ≤ 9223372036854775807
      · have h1 : (hi != IntKind.u64.wrap (wrap64 lo / 9223372036854775808)) = false := by rw [wm, ft.2 hs]; simp
        have k1 : true = K := by rw [← hk', ok]; exact (decide_eq_true hs).symm
        have v1 : wrap64 lo = V := by rw [vl hs.1 hs.2, ← hv, wv, hk', ← k1]; simp
        have K1 : Hid (true = K) := k1
        have V1 : Hid (wrap64 lo = V) := v1
        clear ft vl ok wv hv hk' wm k1 v1 hlo hhi tb hc hs
        go_wp2
        go_ret2
        exact ⟨ret_vk V1.out K1.out, rfl⟩
      · have h1 : (hi != IntKind.u64.wrap (wrap64 lo / 9223372036854775808)) = true := by rw [wm, bne_iff_ne]; exact fun h => hs (ft.1 h)
        have k1 : false = K := by rw [← hk', ok]; exact (decide_eq_false hs).symm
        have v1 : 0 = V := by rw [← hv, wv, hk', ← k1]; simp
        have K1 : Hid (false = K) := k1
        have V1 : Hid (0 = V) := v1
        clear ft vl ok wv hv hk' wm k1 v1 hlo hhi tb hc hs
        go_wp2
        go_ret2
        exact ⟨ret_vk V1.out K1.out, rfl⟩

theorem sum_empty (a : Option Addr) (cap : Nat) (w : World) :
    Calls Try.prog 8 #[.slice a 0 cap] w fun e w' => e = .returned (.tuple #[.int .i64 (smV (total [])), .bool (smOk (total []))]) ∧ w' = w := by
  have e1 : smV (total []) = 0 := by decide
  have e2 : smOk (total []) = true := by decide
  rw [e1, e2]
  go_enter Try.func8, Try.ntmps8
  go_wp2
  go_loop [4, 5, 12] (fun hh ll ii => hh = .int .u64 0 ∧ ll = .int .u64 0 ∧ ii = .int .i64 0) (fun _ _ _ => 0)
  case atStart => exact ⟨rfl, rfl, rfl⟩
  case round =>
    obtain ⟨rfl, rfl, rfl⟩ := hrel
    go_wp2
    go_ret2
    exact ⟨rfl, rfl⟩

theorem Try.info2 : (Try.prog.info? 2).map (fun i => (i.zero, i.size, i.bytes)) = some (some (.int .i64 0), 1, 8) := by kernel_rfl

/-- The slice value v reads as the integers xs. -/
def Reads (w : World) (v : Value) (xs : List Int) : Prop :=
  (xs = [] ∧ ∃ a cap, v = .slice a 0 cap) ∨ (0 < xs.length ∧ ∃ g o cap, v = .slice (some ⟨g, o, none⟩) xs.length cap ∧ xs.length ≤ cap ∧ g < w.heap.size ∧ ∀ i, i < xs.length → w.cell? ⟨g, o + i, none⟩ = some (.int .i64 (xs.getD i 0)))

theorem Reads.later {w w' : World} {v : Value} {xs : List Int} (h : Reads w v xs) (hb : Below w.heap.size w w') : Reads w' v xs := by
  rcases h with h | ⟨h0, g, o, cap, hv, hc, hg, hx⟩
  · exact .inl h
  · exact .inr ⟨h0, g, o, cap, hv, hc, Nat.lt_of_lt_of_le hg hb.size, fun i hi => (hb.cell (p := ⟨g, o + i, none⟩) hg).trans (hx i hi)⟩

theorem Row.reads {e : TypeId} {base : Nat} {w : World} {v : Value} {xs : List Int} (h : Row e base w v xs) : Reads w v xs := by
  cases xs with
  | nil =>
    refine .inl ⟨rfl, ?_⟩
    rcases h.2 with ⟨rfl, _⟩ | ⟨g, cap, cur, rfl, _⟩
    · exact ⟨none, 0, rfl⟩
    · exact ⟨_, _, rfl⟩
  | cons x r =>
    obtain ⟨g, cap, hv, _, hg, hc, _, cell, _⟩ := h.arr (by simp)
    exact .inr ⟨by simp, g, 0, cap, hv, hc, hg, fun i hi => by rw [Nat.zero_add]; exact cell i hi⟩

theorem sum_reads {w : World} {v : Value} {xs : List Int} (h : Reads w v xs) (hx : I64 xs) (hl : xs.length ≤ 1048576) :
    Calls Try.prog 8 #[v] w fun e w' => e = .returned (.tuple #[.int .i64 (smV (total xs)), .bool (smOk (total xs))]) ∧ w' = w := by
  rcases h with ⟨rfl, a, cap, rfl⟩ | ⟨_, g, o, cap, rfl, _, _, cell⟩
  · exact sum_empty a cap w
  · exact sum_any xs g o cap w hx hl cell

end Go.Proofs.Ythepahhidmihmaa
