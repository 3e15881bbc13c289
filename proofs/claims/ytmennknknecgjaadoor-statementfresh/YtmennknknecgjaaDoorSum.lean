/-
  Ours: the contract of money.Sum[int64], of arrearslaw1.copied.
-/
import Derived.Test.YtmennknknecgjaaDoorProg
import Derived.Test.YtmennknknecgjaaDoorOwn
import Derived.Laws.Externs
import Derived.Laws.Bits64
namespace Go.Proofs.YtmennknknecgjaaDoor
open Go.RowKit

theorem ret_vk {k : IntKind} {a V : Int} {b K : Bool} (h : a = V) (h' : b = K) : Ending.returned (.tuple #[.int k a, .bool b]) = .returned (.tuple #[.int k V, .bool K]) := by rw [h, h']

theorem add64 (x y c : Int) (x0 : 0 ≤ x) (y0 : 0 ≤ y) (c0 : 0 ≤ c) (c1 : c ≤ 1) (w : World) :
    (callFunc 66 #[.int .u64 x, .int .u64 y, .int .u64 c]).run Tryd.prog w =
      .ok (.value (.tuple #[.int .u64 ((x + y + c) % 18446744073709551616), .int .u64 ((x + y + c) / 18446744073709551616)])) w := by
  rw [run_callFunc_extern Tryd.func66 (by kernel_rfl) (by kernel_rfl) (by kernel_rfl) (e := add64Entry) (by kernel_rfl)]
  rw [run_add64 x y c x0 y0 c0 c1]
  rfl

/-- The exact sum. -/
def total : List Int → Int
  | [] => 0
  | x :: r => x + total r
theorem total_append : ∀ xs ys : List Int, total (xs ++ ys) = total xs + total ys
  | [], ys => by simp [total]
  | x :: r, ys => by simp only [List.cons_append, total, total_append r ys]; omega
theorem total_push (xs : List Int) (x : Int) : total (xs ++ [x]) = total xs + x := by rw [total_append]; simp [total]
theorem total_take_succ (xs : List Int) (k : Nat) (h : k < xs.length) : total (xs.take (k + 1)) = total (xs.take k) + xs.getD k 0 := by
  rw [List.take_add_one, List.getElem?_eq_getElem h, Option.toList_some, total_push]
  simp [List.getD_eq_getElem?_getD, List.getElem?_eq_getElem h]
theorem total_reverse : ∀ xs : List Int, total xs.reverse = total xs
  | [] => rfl
  | x :: r => by rw [List.reverse_cons, total_push, total_reverse r]; simp only [total]; omega

/-- Every entry is an int64. -/
def I64 (xs : List Int) : Prop := ∀ k, -9223372036854775808 ≤ xs.getD k 0 ∧ xs.getD k 0 ≤ 9223372036854775807
theorem total_bound {xs : List Int} (h : I64 xs) : ∀ k, k ≤ xs.length → -(9223372036854775808 * (k : Int)) ≤ total (xs.take k) ∧ total (xs.take k) ≤ 9223372036854775808 * (k : Int)
  | 0, _ => by simp [total]
  | k + 1, hk => by
    have := total_bound h k (by omega)
    have := h k
    rw [total_take_succ xs k (by omega)]
    omega
def smOk (s : Int) : Bool := decide (-9223372036854775808 ≤ s ∧ s ≤ 9223372036854775807)
def smV (s : Int) : Int := if smOk s then s else 0

namespace Sum
theorem low (s n : Int) : (s % 18446744073709551616 + n % 18446744073709551616 + 0) % 18446744073709551616 = (s + n) % 18446744073709551616 := by omega
theorem high (s n : Int) (h0 : -9223372036854775808 ≤ n) (h1 : n ≤ 9223372036854775807) :
    (s / 18446744073709551616 % 18446744073709551616 + n / 9223372036854775808 % 18446744073709551616 + (s % 18446744073709551616 + n % 18446744073709551616 + 0) / 18446744073709551616) % 18446744073709551616 = (s + n) / 18446744073709551616 % 18446744073709551616 := by
  have e : (s + n) / 18446744073709551616 = s / 18446744073709551616 + n / 9223372036854775808 + (s % 18446744073709551616 + n % 18446744073709551616 + 0) / 18446744073709551616 := by
    by_cases h : n < 0
    · rw [show n / 9223372036854775808 = -1 from by omega, show n % 18446744073709551616 = n + 18446744073709551616 from by omega]; omega
    · rw [show n / 9223372036854775808 = 0 from by omega, show n % 18446744073709551616 = n from by omega]; omega
  rw [e]
  generalize s / 18446744073709551616 = a
  generalize n / 9223372036854775808 = b
  generalize (s % 18446744073709551616 + n % 18446744073709551616 + 0) / 18446744073709551616 = c
  omega
theorem fits (s : Int) (h0 : -85070591730234615865843651857942052864 ≤ s) (h1 : s ≤ 85070591730234615865843651857942052864) :
    (s / 18446744073709551616 % 18446744073709551616 = wrap64 (s % 18446744073709551616) / 9223372036854775808 % 18446744073709551616 ↔ -9223372036854775808 ≤ s ∧ s ≤ 9223372036854775807) := by
  unfold wrap64
  have l := Int.mul_ediv_add_emod s 18446744073709551616
  have l0 : 0 ≤ s % 18446744073709551616 := by omega
  have l1 : s % 18446744073709551616 < 18446744073709551616 := by omega
  have b0 : -4611686018427387904 ≤ s / 18446744073709551616 := by omega
  have b1 : s / 18446744073709551616 ≤ 4611686018427387904 := by omega
  generalize s / 18446744073709551616 = a at *
  generalize s % 18446744073709551616 = b at *
  by_cases hb : b < 9223372036854775808
  · rw [show (b + 9223372036854775808) % 18446744073709551616 - 9223372036854775808 = b from by omega, show b / 9223372036854775808 = 0 from by omega]
    omega
  · rw [show (b + 9223372036854775808) % 18446744073709551616 - 9223372036854775808 = b - 18446744073709551616 from by omega, show (b - 18446744073709551616) / 9223372036854775808 = -1 from by omega]
    omega
theorem value (s : Int) (h0 : -9223372036854775808 ≤ s) (h1 : s ≤ 9223372036854775807) : wrap64 (s % 18446744073709551616) = s := by
  unfold wrap64; omega
end Sum

theorem Tryd.info2 : (Tryd.prog.info? 2).map (fun i => (i.zero, i.size, i.bytes)) = some (some (.int .i64 0), 1, 8) := by kernel_rfl

/-- The slice value v reads as the integers xs. -/
def Reads (w : World) (v : Value) (xs : List Int) : Prop :=
  (xs = [] ∧ ∃ a cap, v = .slice a 0 cap) ∨ (0 < xs.length ∧ ∃ g o cap, v = .slice (some ⟨g, o, none⟩) xs.length cap ∧ xs.length ≤ cap ∧ g < w.heap.size ∧ ∀ i, i < xs.length → w.cell? ⟨g, o + i, none⟩ = some (.int .i64 (xs.getD i 0)))

theorem Reads.later {w w' : World} {v : Value} {xs : List Int} (h : Reads w v xs) (hb : Below w.heap.size w w') : Reads w' v xs := by
  rcases h with h | ⟨h0, g, o, cap, hv, hc, hg, hx⟩
  · exact .inl h
  · exact .inr ⟨h0, g, o, cap, hv, hc, Nat.lt_of_lt_of_le hg hb.size, fun i hi => (hb.cell (p := ⟨g, o + i, none⟩) hg).trans (hx i hi)⟩

theorem Row.reads {e : TypeId} {base : Nat} {w : World} {v : Value} {xs : List Int} (h : Row e base w v xs) : Reads w v xs := by
  cases xs with
  | nil =>
    refine .inl ⟨rfl, ?_⟩
    rcases h.2 with ⟨rfl, _⟩ | ⟨g, cap, cur, rfl, _⟩
    · exact ⟨none, 0, rfl⟩
    · exact ⟨_, _, rfl⟩
  | cons x r =>
    obtain ⟨g, cap, hv, _, hg, hc, _, cell, _⟩ := h.arr (by simp)
    exact .inr ⟨by simp, g, 0, cap, hv, hc, hg, fun i hi => by rw [Nat.zero_add]; exact cell i hi⟩

end Go.Proofs.YtmennknknecgjaaDoor
