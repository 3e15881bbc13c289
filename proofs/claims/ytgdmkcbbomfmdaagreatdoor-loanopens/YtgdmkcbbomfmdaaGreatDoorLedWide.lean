/-
  Ours: sums of 128 bits: plus, minus, narrow.
-/
import Derived.Test.YtgdmkcbbomfmdaaGreatDoorProg
import Derived.Test.YtgdmkcbbomfmdaaGreatDoorOwn
import Derived.Laws.Externs
import Derived.Laws.Bits64
import Derived.Test.YtgdmkcbbomfmdaaGreatDoorLedOwn
import Derived.Shelf.Spec.BitsCarry
namespace Go.Proofs.YtgdmkcbbomfmdaaGreatDoor
open Go.RowKit

theorem ret_vk {k : IntKind} {a V : Int} {b K : Bool} (h : a = V) (h' : b = K) : Ending.returned (.tuple #[.int k a, .bool b]) = .returned (.tuple #[.int k V, .bool K]) := by rw [h, h']

theorem add64 (x y c : Int) (x0 : 0 ≤ x) (y0 : 0 ≤ y) (c0 : 0 ≤ c) (c1 : c ≤ 1) (w : World) :
    (callFunc 133 #[.int .u64 x, .int .u64 y, .int .u64 c]).run Tryz.prog w =
      .ok (.value (.tuple #[.int .u64 ((x + y + c) % 18446744073709551616), .int .u64 ((x + y + c) / 18446744073709551616)])) w := by
  rw [run_callFunc_extern Tryz.func133 (by kernel_rfl) (by kernel_rfl) (by kernel_rfl) (e := add64Entry) (by kernel_rfl)]
  rw [run_add64 x y c x0 y0 c0 c1]
  rfl

/-- The exact sum. -/
def total : List Int → Int
  | [] => 0
  | x :: r => x + total r
theorem total_append : ∀ xs ys : List Int, total (xs ++ ys) = total xs + total ys
  | [], ys => by simp [total]
  | x :: r, ys => by simp only [List.cons_append, total, total_append r ys]; omega
theorem total_push (xs : List Int) (x : Int) : total (xs ++ [x]) = total xs + x := by rw [total_append]; simp [total]
theorem total_take_succ (xs : List Int) (k : Nat) (h : k < xs.length) : total (xs.take (k + 1)) = total (xs.take k) + xs.getD k 0 := by
  rw [List.take_add_one, List.getElem?_eq_getElem h, Option.toList_some, total_push]
  simp [List.getD_eq_getElem?_getD, List.getElem?_eq_getElem h]
theorem total_reverse : ∀ xs : List Int, total xs.reverse = total xs
  | [] => rfl
  | x :: r => by rw [List.reverse_cons, total_push, total_reverse r]; simp only [total]; omega

/-- Every entry is an int64. -/
def I64 (xs : List Int) : Prop := ∀ k, -9223372036854775808 ≤ xs.getD k 0 ∧ xs.getD k 0 ≤ 9223372036854775807
theorem total_bound {xs : List Int} (h : I64 xs) : ∀ k, k ≤ xs.length → -(9223372036854775808 * (k : Int)) ≤ total (xs.take k) ∧ total (xs.take k) ≤ 9223372036854775808 * (k : Int)
  | 0, _ => by simp [total]
  | k + 1, hk => by
    have := total_bound h k (by omega)
    have := h k
    rw [total_take_succ xs k (by omega)]
    omega
def smOk (s : Int) : Bool := decide (-9223372036854775808 ≤ s ∧ s ≤ 9223372036854775807)
def smV (s : Int) : Int := if smOk s then s else 0

namespace Sum
theorem low (s n : Int) : (s % 18446744073709551616 + n % 18446744073709551616 + 0) % 18446744073709551616 = (s + n) % 18446744073709551616 := by omega
theorem high (s n : Int) (h0 : -9223372036854775808 ≤ n) (h1 : n ≤ 9223372036854775807) :
    (s / 18446744073709551616 % 18446744073709551616 + n / 9223372036854775808 % 18446744073709551616 + (s % 18446744073709551616 + n % 18446744073709551616 + 0) / 18446744073709551616) % 18446744073709551616 = (s + n) / 18446744073709551616 % 18446744073709551616 := by
  have e : (s + n) / 18446744073709551616 = s / 18446744073709551616 + n / 9223372036854775808 + (s % 18446744073709551616 + n % 18446744073709551616 + 0) / 18446744073709551616 := by
    by_cases h : n < 0
    · rw [show n / 9223372036854775808 = -1 from by omega, show n % 18446744073709551616 = n + 18446744073709551616 from by omega]; omega
    · rw [show n / 9223372036854775808 = 0 from by omega, show n % 18446744073709551616 = n from by omega]; omega
  rw [e]
  generalize s / 18446744073709551616 = a
  generalize n / 9223372036854775808 = b
  generalize (s % 18446744073709551616 + n % 18446744073709551616 + 0) / 18446744073709551616 = c
  omega
theorem fits (s : Int) (h0 : -85070591730234615865843651857942052864 ≤ s) (h1 : s ≤ 85070591730234615865843651857942052864) :
    (s / 18446744073709551616 % 18446744073709551616 = wrap64 (s % 18446744073709551616) / 9223372036854775808 % 18446744073709551616 ↔ -9223372036854775808 ≤ s ∧ s ≤ 9223372036854775807) := by
  unfold wrap64
  have l := Int.mul_ediv_add_emod s 18446744073709551616
  have l0 : 0 ≤ s % 18446744073709551616 := by omega
  have l1 : s % 18446744073709551616 < 18446744073709551616 := by omega
  have b0 : -4611686018427387904 ≤ s / 18446744073709551616 := by omega
  have b1 : s / 18446744073709551616 ≤ 4611686018427387904 := by omega
  generalize s / 18446744073709551616 = a at *
  generalize s % 18446744073709551616 = b at *
  by_cases hb : b < 9223372036854775808
  · rw [show (b + 9223372036854775808) % 18446744073709551616 - 9223372036854775808 = b from by omega, show b / 9223372036854775808 = 0 from by omega]
    omega
  · rw [show (b + 9223372036854775808) % 18446744073709551616 - 9223372036854775808 = b - 18446744073709551616 from by omega, show (b - 18446744073709551616) / 9223372036854775808 = -1 from by omega]
    omega
theorem value (s : Int) (h0 : -9223372036854775808 ≤ s) (h1 : s ≤ 9223372036854775807) : wrap64 (s % 18446744073709551616) = s := by
  unfold wrap64; omega
end Sum

theorem Tryz.info2 : (Tryz.prog.info? 2).map (fun i => (i.zero, i.size, i.bytes)) = some (some (.int .i64 0), 1, 8) := by kernel_rfl

/-- The slice value v reads as the integers xs. -/
def Reads (w : World) (v : Value) (xs : List Int) : Prop :=
  (xs = [] ∧ ∃ a cap, v = .slice a 0 cap) ∨ (0 < xs.length ∧ ∃ g o cap, v = .slice (some ⟨g, o, none⟩) xs.length cap ∧ xs.length ≤ cap ∧ g < w.heap.size ∧ ∀ i, i < xs.length → w.cell? ⟨g, o + i, none⟩ = some (.int .i64 (xs.getD i 0)))

theorem Reads.later {w w' : World} {v : Value} {xs : List Int} (h : Reads w v xs) (hb : Below w.heap.size w w') : Reads w' v xs := by
  rcases h with h | ⟨h0, g, o, cap, hv, hc, hg, hx⟩
  · exact .inl h
  · exact .inr ⟨h0, g, o, cap, hv, hc, Nat.lt_of_lt_of_le hg hb.size, fun i hi => (hb.cell (p := ⟨g, o + i, none⟩) hg).trans (hx i hi)⟩

theorem Row.reads {e : TypeId} {base : Nat} {w : World} {v : Value} {xs : List Int} (h : Row e base w v xs) : Reads w v xs := by
  cases xs with
  | nil =>
    refine .inl ⟨rfl, ?_⟩
    rcases h.2 with ⟨rfl, _⟩ | ⟨g, cap, cur, rfl, _⟩
    · exact ⟨none, 0, rfl⟩
    · exact ⟨_, _, rfl⟩
  | cons x r =>
    obtain ⟨g, cap, hv, _, hg, hc, _, cell, _⟩ := h.arr (by simp)
    exact .inr ⟨by simp, g, 0, cap, hv, hc, hg, fun i hi => by rw [Nat.zero_add]; exact cell i hi⟩

end Go.Proofs.YtgdmkcbbomfmdaaGreatDoor

namespace Go.Proofs.YtgdmkcbbomfmdaaGreatDoor
open Go.RowKit LedM

theorem sub64 (x y b : Int) (x0 : 0 ≤ x) (x1 : x < 18446744073709551616) (y0 : 0 ≤ y) (y1 : y < 18446744073709551616) (b0 : 0 ≤ b) (b1 : b ≤ 1) (w : World) :
    (callFunc 134 #[.int .u64 x, .int .u64 y, .int .u64 b]).run Tryz.prog w =
      .ok (.value (.tuple #[.int .u64 ((x - y - b) % 18446744073709551616), .int .u64 (if x < y + b then 1 else 0)])) w := by
  obtain ⟨x, rfl⟩ : ∃ n : Nat, x = (n : Int) := ⟨x.toNat, by omega⟩
  obtain ⟨y, rfl⟩ : ∃ n : Nat, y = (n : Int) := ⟨y.toNat, by omega⟩
  obtain ⟨b, rfl⟩ : ∃ n : Nat, b = (n : Int) := ⟨b.toNat, by omega⟩
  rw [run_callFunc_extern Tryz.func134 (by kernel_rfl) (by kernel_rfl) (by kernel_rfl) (e := sub64Entry) (by kernel_rfl)]
  rw [run_sub64 x y b (by omega)]
  have e1 : (((x + 18446744073709551616 - y - b) % 18446744073709551616 : Nat) : Int) = ((x : Int) - y - b) % 18446744073709551616 := by omega
  have e2 : ((if x < y + b then 1 else 0 : Nat) : Int) = (if (x : Int) < (y : Int) + b then 1 else 0) := by split <;> split <;> omega
  rw [e1, e2]
  rfl

namespace LedM
theorem sub_low (s n : Int) : (s % 18446744073709551616 - n % 18446744073709551616 - 0) % 18446744073709551616 = (s - n) % 18446744073709551616 := by omega
theorem sub_high (s n : Int) (h0 : -9223372036854775808 ≤ n) (h1 : n ≤ 9223372036854775807) :
    (s / 18446744073709551616 % 18446744073709551616 - n / 9223372036854775808 % 18446744073709551616 - (if s % 18446744073709551616 < n % 18446744073709551616 + 0 then 1 else 0)) % 18446744073709551616 = (s - n) / 18446744073709551616 % 18446744073709551616 := by
  have e : (s - n) / 18446744073709551616 = s / 18446744073709551616 - n / 9223372036854775808 - (if s % 18446744073709551616 < n % 18446744073709551616 + 0 then 1 else 0) := by
    by_cases h : n < 0
    · rw [show n / 9223372036854775808 = -1 from by omega, show n % 18446744073709551616 = n + 18446744073709551616 from by omega]; split <;> omega
    · rw [show n / 9223372036854775808 = 0 from by omega, show n % 18446744073709551616 = n from by omega]; split <;> omega
  rw [e]
  generalize s / 18446744073709551616 = a
  generalize n / 9223372036854775808 = b
  generalize (if s % 18446744073709551616 < n % 18446744073709551616 + 0 then (1 : Int) else 0) = c
  omega
end LedM

theorem infoW : (Tryz.prog.info? 126).map (·.size) = some 2 := by kernel_rfl
theorem oneW (a b : Int) : ∀ v ∈ [Value.int .u64 a, Value.int .u64 b], v.oneCell' = true := fun v hv => by
  simp at hv
  rcases hv with rfl | rfl <;> rfl

set_option maxHeartbeats 1000000 in
theorem wplus_at (s n : Int) (w : World) (n0 : -9223372036854775808 ≤ n) (n1 : n ≤ 9223372036854775807) :
    Calls Tryz.prog 114 #[.agg (wdL s).toArray, .int .i64 n] w fun e w' => e = .returned (.agg (wdL (s + n)).toArray) ∧ Below w.heap.size w w' := by
  unfold wdL
  have sl := Sum.low s n
  have sh := Sum.high s n n0 n1
  obtain ⟨lo, elo⟩ : ∃ lo, s % 18446744073709551616 = lo := ⟨_, rfl⟩
  obtain ⟨hi, ehi⟩ : ∃ hi, s / 18446744073709551616 % 18446744073709551616 = hi := ⟨_, rfl⟩
  obtain ⟨lo', elo'⟩ : ∃ lo, (s + n) % 18446744073709551616 = lo := ⟨_, rfl⟩
  obtain ⟨hi', ehi'⟩ : ∃ hi, (s + n) / 18446744073709551616 % 18446744073709551616 = hi := ⟨_, rfl⟩
  rw [elo, elo'] at sl
  rw [elo, ehi, ehi'] at sh
  rw [elo, ehi, elo', ehi']
  have lo0 : 0 ≤ lo := by omega
  have hi0 : 0 ≤ hi := by omega
  have lo1 : lo < 18446744073709551616 := by omega
  have a1 := fun w => add64 lo (IntKind.u64.wrap n) 0 lo0 (by rw [IntKind.wrap_u64]; omega) (by omega) (by omega) w
  have a2 := fun w => add64 hi (IntKind.u64.wrap (n / 9223372036854775808)) ((lo + n % 18446744073709551616 + 0) / 18446744073709551616) hi0 (by rw [IntKind.wrap_u64]; omega) (by omega) (by omega) w
  simp only [IntKind.wrap_u64] at a1 a2
  rw [sl] at a1
  rw [sh] at a2
  generalize hc1 : (lo + n % 18446744073709551616 + 0) / 18446744073709551616 = c1 at *
  have wn : IntKind.u64.wrap n = n % 18446744073709551616 := IntKind.wrap_u64 n
  have wm : IntKind.u64.wrap (n / 9223372036854775808) = n / 9223372036854775808 % 18446744073709551616 := IntKind.wrap_u64 _
  have NB : Hid (Blk (w.heap.size + 1) 126 [.int .u64 0, .int .u64 0] ((w.alloc (.cells #[.int .u64 hi, .int .u64 lo] 126)).alloc (.cells #[.int .u64 0, .int .u64 0] 126))) := Blk.new2 126 [.int .u64 0, .int .u64 0] w _
  have BB : Hid (Below w.heap.size w ((w.alloc (.cells #[.int .u64 hi, .int .u64 lo] 126)).alloc (.cells #[.int .u64 0, .int .u64 0] 126))) := (below_alloc w _).alloc (by simp) _
  clear sl sh hc1 elo ehi elo' ehi'
  go_enter Tryz.func114, Tryz.ntmps114
  go_wp2_with (refine step_store rfl 126 _ _ rfl (w.heap.size + 1) 0 126 [.int .u64 0, .int .u64 0] [.int .u64 hi', .int .u64 lo'] rfl rfl NB.out (by simp) infoW (oneW _ _) ?_; intro w2 nb2 g2)
  refine ret_blk rfl rfl (w.heap.size + 1) 126 [.int .u64 hi', .int .u64 lo'] _ rfl nb2 Tryz.underlying126 rfl infoW ?_
  exact ⟨rfl, below_row BB.out g2 (by omega)⟩

set_option maxHeartbeats 1000000 in
theorem wminus_at (s n : Int) (w : World) (n0 : -9223372036854775808 ≤ n) (n1 : n ≤ 9223372036854775807) :
    Calls Tryz.prog 115 #[.agg (wdL s).toArray, .int .i64 n] w fun e w' => e = .returned (.agg (wdL (s - n)).toArray) ∧ Below w.heap.size w w' := by
  unfold wdL
  have sl := LedM.sub_low s n
  have sh := LedM.sub_high s n n0 n1
  obtain ⟨lo, elo⟩ : ∃ lo, s % 18446744073709551616 = lo := ⟨_, rfl⟩
  obtain ⟨hi, ehi⟩ : ∃ hi, s / 18446744073709551616 % 18446744073709551616 = hi := ⟨_, rfl⟩
  obtain ⟨lo', elo'⟩ : ∃ lo, (s - n) % 18446744073709551616 = lo := ⟨_, rfl⟩
  obtain ⟨hi', ehi'⟩ : ∃ hi, (s - n) / 18446744073709551616 % 18446744073709551616 = hi := ⟨_, rfl⟩
  rw [elo, elo'] at sl
  rw [elo, ehi, ehi'] at sh
  rw [elo, ehi, elo', ehi']
  have lo0 : 0 ≤ lo := by omega
  have hi0 : 0 ≤ hi := by omega
  have lo1 : lo < 18446744073709551616 := by omega
  have hi1 : hi < 18446744073709551616 := by omega
  have a1 := fun w => sub64 lo (IntKind.u64.wrap n) 0 lo0 lo1 (by rw [IntKind.wrap_u64]; omega) (by rw [IntKind.wrap_u64]; omega) (by omega) (by omega) w
  have a2 := fun w => sub64 hi (IntKind.u64.wrap (n / 9223372036854775808)) (if lo < n % 18446744073709551616 + 0 then 1 else 0) hi0 hi1 (by rw [IntKind.wrap_u64]; omega) (by rw [IntKind.wrap_u64]; omega) (by split <;> omega) (by split <;> omega) w
  simp only [IntKind.wrap_u64] at a1 a2
  rw [sl] at a1
  rw [sh] at a2
  generalize hc1 : (if lo < n % 18446744073709551616 + 0 then (1 : Int) else 0) = c1 at *
  generalize (if hi < n / 9223372036854775808 % 18446744073709551616 + c1 then (1 : Int) else 0) = c2 at *
  have wn : IntKind.u64.wrap n = n % 18446744073709551616 := IntKind.wrap_u64 n
  have wm : IntKind.u64.wrap (n / 9223372036854775808) = n / 9223372036854775808 % 18446744073709551616 := IntKind.wrap_u64 _
  have NB : Hid (Blk (w.heap.size + 1) 126 [.int .u64 0, .int .u64 0] ((w.alloc (.cells #[.int .u64 hi, .int .u64 lo] 126)).alloc (.cells #[.int .u64 0, .int .u64 0] 126))) := Blk.new2 126 [.int .u64 0, .int .u64 0] w _
  have BB : Hid (Below w.heap.size w ((w.alloc (.cells #[.int .u64 hi, .int .u64 lo] 126)).alloc (.cells #[.int .u64 0, .int .u64 0] 126))) := (below_alloc w _).alloc (by simp) _
  clear sl sh hc1 elo ehi elo' ehi'
  go_enter Tryz.func115, Tryz.ntmps115
  go_wp2_with (refine step_store rfl 126 _ _ rfl (w.heap.size + 1) 0 126 [.int .u64 0, .int .u64 0] [.int .u64 hi', .int .u64 lo'] rfl rfl NB.out (by simp) infoW (oneW _ _) ?_; intro w2 nb2 g2)
  refine ret_blk rfl rfl (w.heap.size + 1) 126 [.int .u64 hi', .int .u64 lo'] _ rfl nb2 Tryz.underlying126 rfl infoW ?_
  exact ⟨rfl, below_row BB.out g2 (by omega)⟩

namespace LedM
/-- A sum that 128 bits hold. -/
def Wd (s : Int) : Prop := -85070591730234615865843651857942052864 ≤ s ∧ s ≤ 85070591730234615865843651857942052864
end LedM
set_option maxHeartbeats 1000000 in
theorem narrow_at (s : Int) (w : World) (hs : Wd s) :
    Calls Tryz.prog 116 #[.agg (wdL s).toArray] w fun e w' => e = .returned (.tuple #[.int .i64 (smV s), .bool (smOk s)]) ∧ Below w.heap.size w w' := by
  unfold wdL
  have ft := Sum.fits s hs.1 hs.2
  have vl := Sum.value s
  have ok : smOk s = decide (-9223372036854775808 ≤ s ∧ s ≤ 9223372036854775807) := rfl
  have wv : smV s = if smOk s then s else 0 := rfl
  obtain ⟨lo, elo⟩ : ∃ lo, s % 18446744073709551616 = lo := ⟨_, rfl⟩
  obtain ⟨hi, ehi⟩ : ∃ hi, s / 18446744073709551616 % 18446744073709551616 = hi := ⟨_, rfl⟩
  have FIN : Hid (Below w.heap.size w (w.alloc (.cells #[.int .u64 hi, .int .u64 lo] 126))) := below_alloc w _
  rw [elo, ehi] at ft
  rw [elo] at vl
  rw [elo, ehi]
  have lo0 : 0 ≤ lo := by omega
  have lo1 : lo < 18446744073709551616 := by omega
  have wm : IntKind.u64.wrap (wrap64 lo / 9223372036854775808) = wrap64 lo / 9223372036854775808 % 18446744073709551616 := IntKind.wrap_u64 _
  obtain ⟨V, HV⟩ : ∃ V, Hid (smV s = V) := ⟨_, rfl⟩
  obtain ⟨K, HK⟩ : ∃ K, Hid (smOk s = K) := ⟨_, rfl⟩
  have hv := HV.out
  have hk := HK.out
  by_cases hin : -9223372036854775808 ≤ s ∧ s ≤ 9223372036854775807
  · have h1 : (hi != IntKind.u64.wrap (wrap64 lo / 9223372036854775808)) = false := by rw [wm, ← ft.2 hin]; simp
    have k1 : Hid (true = K) := by show _ = _; rw [← hk, ok]; exact (decide_eq_true hin).symm
    have v1 : Hid (wrap64 lo = V) := by show _ = _; rw [vl hin.1 hin.2, ← hv, wv, hk, ← k1.out]; simp
    rw [HV.out, HK.out]
    clear ft vl ok wv hv hk wm hin hs elo ehi HV HK
    go_enter Tryz.func116, Tryz.ntmps116
    go_wp2_with fail
    go_ret2
    exact ⟨ret_vk v1.out k1.out, FIN.out⟩
  · have h1 : (hi != IntKind.u64.wrap (wrap64 lo / 9223372036854775808)) = true := by
      rw [wm, bne_iff_ne]
      exact fun e => hin (ft.1 e)
    have k1 : Hid (false = K) := by show _ = _; rw [← hk, ok]; exact (decide_eq_false hin).symm
    have v1 : Hid (0 = V) := by show _ = _; rw [← hv, wv, hk, ← k1.out]; simp
    rw [HV.out, HK.out]
    clear ft vl ok wv hv hk wm hin hs elo ehi HV HK
    go_enter Tryz.func116, Tryz.ntmps116
    go_wp2_with fail
    go_ret2
    exact ⟨ret_vk v1.out k1.out, FIN.out⟩
end Go.Proofs.YtgdmkcbbomfmdaaGreatDoor
