/-
  Ours: rows of instalments that a call has made.
-/
import Derived.WalkKit
import Derived.WalkSpells
import Derived.WalkLawsBesides
import Derived.RowKit3
import Derived.Test.YtgdmkcbbomfmdaaGreatDoorProg
import Derived.Laws.Externs
import Derived.Laws.Bits64
import Derived.Test.YtgdmkcbbomfmdaaGreatDoorCalNum
namespace Go.Proofs.YtgdmkcbbomfmdaaGreatDoor
open Go.RowKit

/-- The slice value v, among blocks from 'base' on, holds just the integers xs (element type e). -/
def Row (e : TypeId) (base : Nat) (w : World) (v : Value) (xs : List Int) : Prop := w.ownsRow base e 1 v xs.length (xs.map (Value.int .i64))

/-- The slice value v reads as the integers xs. -/
def Arr (w : World) (v : Value) (xs : List Int) : Prop :=
  ∃ g o cap, v = .slice (some ⟨g, o, none⟩) xs.length cap ∧ xs.length ≤ cap ∧ xs.length ≤ maxLen ∧ g < w.heap.size ∧ ∀ i, i < xs.length → w.cell? ⟨g, o + i, none⟩ = some (.int .i64 (xs.getD i 0))

theorem Row.nil (e : TypeId) (base : Nat) (w : World) : Row e base w (.slice none 0 0) [] := World.ownsRow_nil _ _ _ _

theorem Row.arr {e : TypeId} {base : Nat} {w : World} {v : Value} {xs : List Int} (h : Row e base w v xs) (hx : 0 < xs.length) :
    ∃ g cap, v = .slice (some ⟨g, 0, none⟩) xs.length cap ∧ base ≤ g ∧ g < w.heap.size ∧ xs.length ≤ cap ∧ cap ≤ maxLen ∧ (∀ i, i < xs.length → w.cell? ⟨g, i, none⟩ = some (.int .i64 (xs.getD i 0))) ∧ ∀ i, w.frozen? ⟨g, i, none⟩ = false := by
  have hc := fun (g : Nat) (hg : v.ownBlock = some g) => World.ownsRow.cells h hg
  rcases h.2 with ⟨_, h0⟩ | ⟨g, cap, cur, rfl, hb, hg, hn, hm, hs, ht⟩
  · omega
  · have lt := (Array.getElem?_eq_some_iff.1 hg).1
    refine ⟨g, cap, rfl, hb, lt, hn, hm, fun i hi => ?_, fun i => ?_⟩
    · have hadd : (⟨g, 0, none⟩ : Addr).add i = ⟨g, i, none⟩ := by unfold Addr.add; split <;> simp_all
      rw [← hadd]
      refine hc g rfl i _ ?_
      rw [List.getElem?_map, List.getElem?_eq_getElem hi]
      simp [List.getD_eq_getElem?_getD, List.getElem?_eq_getElem hi]
    · simp [World.frozen?, hg]

theorem Row.later {e : TypeId} {base : Nat} {w w' : World} {v : Value} {xs : List Int} (h : Row e base w v xs) (hb : Below w.heap.size w w') : Row e base w' v xs := by
  refine h.kept (row := none) ⟨hb.os, hb.tape, hb.output, hb.size, fun k hk _ => hb.block k hk⟩ ?_
  cases hv : v.ownBlock <;> simp

theorem Row.mono {e : TypeId} {base base' : Nat} {w : World} {v : Value} {xs : List Int} (h : Row e base w v xs) (hb : base' ≤ base) : Row e base' w v xs := by
  refine ⟨h.1, ?_⟩
  rcases h.2 with hn | ⟨g, cap, cur, hv, hg, rest⟩
  · exact .inl hn
  · exact .inr ⟨g, cap, cur, hv, Nat.le_trans hb hg, rest⟩

/-- Behind one more element. -/
theorem Row.push {e : TypeId} {base B : Nat} {w wr w1 : World} {v v' : Value} {xs : List Int} {x : Int} {o : Obj} (hown : Row e base wr v xs) (hnx : Below B w wr) (hB : B ≤ base) (hs : base ≤ wr.heap.size)
    (hown' : w1.ownsRow base e 1 v' (xs.length + 1) (xs.map (Value.int .i64) ++ [.int .i64 x])) (hgrow : (wr.alloc o).grownBy w1 v.ownBlock) :
    Row e base w1 v' (xs ++ [x]) ∧ Below B w w1 ∧ base ≤ w1.heap.size := by
  refine ⟨by simpa [Row] using hown', (hnx.alloc (by omega) o).grown hgrow (by simp; omega) (fun j hj => by have := (hown.lt j hj).1; omega), ?_⟩
  have := hgrow.size
  simp at this
  omega

/-- 'v = append(v, y)' on a row of the call's own. -/
theorem wpList_push {P : Program} {wr : World} {ops : Array Oper} {rest : List Oper} {o : Oper} {a : Act} {Q : Exit → Act → World → Prop} (hgd : o.guard = none) (s x : Operand) (t : TypeId)
    (ho : o.op = .call { callee := .builtin .append, args := #[s, x], argTypes := #[t, t] })
    (e : TypeId) (i : TypeInfo) (ht : P.underlying t = some (.slice e)) (hi : P.info? e = some i) (hz : i.zero = some (.int .i64 0)) (hsize : i.size = 1) (hby : i.bytes = 8)
    (base B : Nat) (w : World) (v : Value) (xs : List Int) (y : Int) (hs : a.eval s = v) (hown : Row e base wr v xs) (hnx : Below B w wr) (hB : B ≤ base) (hsz : base ≤ wr.heap.size)
    (hx : a.eval x = .slice (some ⟨wr.heap.size, 0, none⟩) 1 1) (hl : xs.length < 1099511627776)
    (h : ∀ v' w', Row e base w' v' (xs ++ [y]) → Below B w w' → base ≤ w'.heap.size → wpList P ops Q rest (a.put o.dst v') w') :
    wpList P ops Q (o :: rest) a (wr.alloc (.cells #[.int .i64 y] e)) := by
  refine wpList_append_own _ hgd s x t ho base e i (.int .i64 0) 1 8 ht hi hz hsize hby rfl (by decide) v xs.length (xs.map (Value.int .i64)) hs (World.ownsRow.alloc hown _) ⟨wr.heap.size, 0, none⟩ 1 1 [.int .i64 y] hx rfl ?_ ?_ ?_ ?_ ?_ ?_
  · intro j u hj
    match j, hj with
    | 0, hj => simp at hj; subst hj; simp [Addr.add]
  · intro u hu; simp at hu; subst hu; rfl
  · unfold maxLen; omega
  · omega
  · simp; omega
  · intro v' w' hown' hgrow _
    obtain ⟨r1, r2, r3⟩ := Row.push hown hnx hB hsz hown' hgrow
    exact h v' w' r1 r2 r3

end Go.Proofs.YtgdmkcbbomfmdaaGreatDoor

namespace Go.Proofs.YtgdmkcbbomfmdaaGreatDoor
open Go.RowKit

theorem ret_vk {k : IntKind} {a V : Int} {b K : Bool} (h : a = V) (h' : b = K) : Ending.returned (.tuple #[.int k a, .bool b]) = .returned (.tuple #[.int k V, .bool K]) := by rw [h, h']

theorem add64 (x y c : Int) (x0 : 0 ≤ x) (y0 : 0 ≤ y) (c0 : 0 ≤ c) (c1 : c ≤ 1) (w : World) :
    (callFunc 133 #[.int .u64 x, .int .u64 y, .int .u64 c]).run Tryz.prog w =
      .ok (.value (.tuple #[.int .u64 ((x + y + c) % 18446744073709551616), .int .u64 ((x + y + c) / 18446744073709551616)])) w := by
  rw [run_callFunc_extern Tryz.func133 (by kernel_rfl) (by kernel_rfl) (by kernel_rfl) (e := add64Entry) (by kernel_rfl)]
  rw [run_add64 x y c x0 y0 c0 c1]
  rfl

/-- The exact sum. -/
def total : List Int → Int
  | [] => 0
  | x :: r => x + total r
theorem total_append : ∀ xs ys : List Int, total (xs ++ ys) = total xs + total ys
  | [], ys => by simp [total]
  | x :: r, ys => by simp only [List.cons_append, total, total_append r ys]; omega
theorem total_push (xs : List Int) (x : Int) : total (xs ++ [x]) = total xs + x := by rw [total_append]; simp [total]
theorem total_take_succ (xs : List Int) (k : Nat) (h : k < xs.length) : total (xs.take (k + 1)) = total (xs.take k) + xs.getD k 0 := by
  rw [List.take_add_one, List.getElem?_eq_getElem h, Option.toList_some, total_push]
  simp [List.getD_eq_getElem?_getD, List.getElem?_eq_getElem h]
theorem total_reverse : ∀ xs : List Int, total xs.reverse = total xs
  | [] => rfl
  | x :: r => by rw [List.reverse_cons, total_push, total_reverse r]; simp only [total]; omega

/-- Every entry is an int64. -/
def I64 (xs : List Int) : Prop := ∀ k, -9223372036854775808 ≤ xs.getD k 0 ∧ xs.getD k 0 ≤ 9223372036854775807
theorem total_bound {xs : List Int} (h : I64 xs) : ∀ k, k ≤ xs.length → -(9223372036854775808 * (k : Int)) ≤ total (xs.take k) ∧ total (xs.take k) ≤ 9223372036854775808 * (k : Int)
  | 0, _ => by simp [total]
  | k + 1, hk => by
    have := total_bound h k (by omega)
    have := h k
    rw [total_take_succ xs k (by omega)]
    omega
def smOk (s : Int) : Bool := decide (-9223372036854775808 ≤ s ∧ s ≤ 9223372036854775807)
def smV (s : Int) : Int := if smOk s then s else 0

namespace Sum
theorem low (s n : Int) : (s % 18446744073709551616 + n % 18446744073709551616 + 0) % 18446744073709551616 = (s + n) % 18446744073709551616 := by omega
theorem high (s n : Int) (h0 : -9223372036854775808 ≤ n) (h1 : n ≤ 9223372036854775807) :
    (s / 18446744073709551616 % 18446744073709551616 + n / 9223372036854775808 % 18446744073709551616 + (s % 18446744073709551616 + n % 18446744073709551616 + 0) / 18446744073709551616) % 18446744073709551616 = (s + n) / 18446744073709551616 % 18446744073709551616 := by
  have e : (s + n) / 18446744073709551616 = s / 18446744073709551616 + n / 9223372036854775808 + (s % 18446744073709551616 + n % 18446744073709551616 + 0) / 18446744073709551616 := by
    by_cases h : n < 0
    · rw [show n / 9223372036854775808 = -1 from by omega, show n % 18446744073709551616 = n + 18446744073709551616 from by omega]; omega
    · rw [show n / 9223372036854775808 = 0 from by omega, show n % 18446744073709551616 = n from by omega]; omega
  rw [e]
  generalize s / 18446744073709551616 = a
  generalize n / 9223372036854775808 = b
  generalize (s % 18446744073709551616 + n % 18446744073709551616 + 0) / 18446744073709551616 = c
  omega
theorem fits (s : Int) (h0 : -85070591730234615865843651857942052864 ≤ s) (h1 : s ≤ 85070591730234615865843651857942052864) :
    (s / 18446744073709551616 % 18446744073709551616 = wrap64 (s % 18446744073709551616) / 9223372036854775808 % 18446744073709551616 ↔ -9223372036854775808 ≤ s ∧ s ≤ 9223372036854775807) := by
  unfold wrap64
  have l := Int.mul_ediv_add_emod s 18446744073709551616
  have l0 : 0 ≤ s % 18446744073709551616 := by omega
  have l1 : s % 18446744073709551616 < 18446744073709551616 := by omega
  have b0 : -4611686018427387904 ≤ s / 18446744073709551616 := by omega
  have b1 : s / 18446744073709551616 ≤ 4611686018427387904 := by omega
  generalize s / 18446744073709551616 = a at *
  generalize s % 18446744073709551616 = b at *
  by_cases hb : b < 9223372036854775808
  · rw [show (b + 9223372036854775808) % 18446744073709551616 - 9223372036854775808 = b from by omega, show b / 9223372036854775808 = 0 from by omega]
    omega
  · rw [show (b + 9223372036854775808) % 18446744073709551616 - 9223372036854775808 = b - 18446744073709551616 from by omega, show (b - 18446744073709551616) / 9223372036854775808 = -1 from by omega]
    omega
theorem value (s : Int) (h0 : -9223372036854775808 ≤ s) (h1 : s ≤ 9223372036854775807) : wrap64 (s % 18446744073709551616) = s := by
  unfold wrap64; omega
end Sum

theorem Tryz.info2 : (Tryz.prog.info? 2).map (fun i => (i.zero, i.size, i.bytes)) = some (some (.int .i64 0), 1, 8) := by kernel_rfl

/-- The slice value v reads as the integers xs. -/
def Reads (w : World) (v : Value) (xs : List Int) : Prop :=
  (xs = [] ∧ ∃ a cap, v = .slice a 0 cap) ∨ (0 < xs.length ∧ ∃ g o cap, v = .slice (some ⟨g, o, none⟩) xs.length cap ∧ xs.length ≤ cap ∧ g < w.heap.size ∧ ∀ i, i < xs.length → w.cell? ⟨g, o + i, none⟩ = some (.int .i64 (xs.getD i 0)))

theorem Reads.later {w w' : World} {v : Value} {xs : List Int} (h : Reads w v xs) (hb : Below w.heap.size w w') : Reads w' v xs := by
  rcases h with h | ⟨h0, g, o, cap, hv, hc, hg, hx⟩
  · exact .inl h
  · exact .inr ⟨h0, g, o, cap, hv, hc, Nat.lt_of_lt_of_le hg hb.size, fun i hi => (hb.cell (p := ⟨g, o + i, none⟩) hg).trans (hx i hi)⟩

theorem Row.reads {e : TypeId} {base : Nat} {w : World} {v : Value} {xs : List Int} (h : Row e base w v xs) : Reads w v xs := by
  cases xs with
  | nil =>
    refine .inl ⟨rfl, ?_⟩
    rcases h.2 with ⟨rfl, _⟩ | ⟨g, cap, cur, rfl, _⟩
    · exact ⟨none, 0, rfl⟩
    · exact ⟨_, _, rfl⟩
  | cons x r =>
    obtain ⟨g, cap, hv, _, hg, hc, _, cell, _⟩ := h.arr (by simp)
    exact .inr ⟨by simp, g, 0, cap, hv, hc, hg, fun i hi => by rw [Nat.zero_add]; exact cell i hi⟩

end Go.Proofs.YtgdmkcbbomfmdaaGreatDoor

namespace Go.Proofs.YtgdmkcbbomfmdaaGreatDoor
open Go.RowKit

theorem infoInst : (Tryz.prog.info? 67).map (fun i => (i.zero, i.size, i.bytes)) = some (some (.agg #[.int .i64 0, .int .i64 0, .int .i64 0, .bool false]), 4, 32) := by kernel_rfl

/-- An instalment's four cells. -/
def instC (x : Int × Int × Int) : List Value := [.int .i64 x.1, .int .i64 x.2.1, .int .i64 x.2.2, .bool false]
def RowI (base : Nat) (w : World) (v : Value) (rs : List (Int × Int × Int)) : Prop := w.ownsRow base 67 4 v rs.length (rs.flatMap instC)

theorem RowI.nil (base : Nat) (w : World) : RowI base w (.slice none 0 0) [] := World.ownsRow_nil _ _ _ _

theorem instC_length (rs : List (Int × Int × Int)) : (rs.flatMap instC).length = rs.length * 4 := by
  induction rs with
  | nil => rfl
  | cons x rs ih => simp only [List.flatMap_cons, List.length_append, ih, List.length_cons]; show 4 + _ = _; omega
theorem instC_get (rs : List (Int × Int × Int)) (i j : Nat) (hi : i < rs.length) (hj : j < 4) : (rs.flatMap instC)[4 * i + j]? = (instC (rs.getD i (0, 0, 0)))[j]? := by
  induction rs generalizing i with
  | nil => simp at hi
  | cons x rs ih =>
    simp only [List.flatMap_cons]
    have lx : (instC x).length = 4 := rfl
    cases i with
    | zero => rw [List.getElem?_append_left (by omega)]; simp
    | succ i =>
      rw [List.getElem?_append_right (by omega), lx]
      have := ih i (by simpa using hi)
      rw [show 4 * (i + 1) + j - 4 = 4 * i + j by omega, this]
      simp

theorem RowI.later {base : Nat} {w w' : World} {v : Value} {rs : List (Int × Int × Int)} (h : RowI base w v rs) (hb : Below w.heap.size w w') : RowI base w' v rs := by
  refine h.kept (row := none) ⟨hb.os, hb.tape, hb.output, hb.size, fun k hk _ => hb.block k hk⟩ ?_
  cases hv : v.ownBlock <;> simp
theorem RowI.mono {base base' : Nat} {w : World} {v : Value} {rs : List (Int × Int × Int)} (h : RowI base w v rs) (hb : base' ≤ base) : RowI base' w v rs := by
  refine ⟨h.1, ?_⟩
  rcases h.2 with hn | ⟨g, cap, cur, hv, hg, rest⟩
  · exact .inl hn
  · exact .inr ⟨g, cap, cur, hv, Nat.le_trans hb hg, rest⟩

/-- How such a row reads. -/
structure InstOk (w : World) (a : Option Addr) (rs : List (Int × Int × Int)) : Prop where
  len : rs.length ≤ 9223372036854775807
  cells : rs = [] ∨ ∃ g off, a = some ⟨g, off, none⟩ ∧ ∀ i, i < rs.length → w.cell? ⟨g, off + i * 4, none⟩ = some (.int .i64 (rs.getD i (0, 0, 0)).1) ∧ w.cell? ⟨g, off + i * 4 + 1, none⟩ = some (.int .i64 (rs.getD i (0, 0, 0)).2.1) ∧ w.cell? ⟨g, off + i * 4 + 2, none⟩ = some (.int .i64 (rs.getD i (0, 0, 0)).2.2) ∧ w.cell? ⟨g, off + i * 4 + 3, none⟩ = some (.bool false)
theorem InstOk.up {w w' : World} {a : Option Addr} {rs : List (Int × Int × Int)} (h : InstOk w a rs) (u : Up w w') : InstOk w' a rs := by
  refine ⟨h.len, ?_⟩
  rcases h.cells with e | ⟨g, off, e, hc⟩
  · exact .inl e
  · exact .inr ⟨g, off, e, fun i hi => ⟨u.cell (hc i hi).1, u.cell (hc i hi).2.1, u.cell (hc i hi).2.2.1, u.cell (hc i hi).2.2.2⟩⟩

theorem RowI.form {base : Nat} {w : World} {v : Value} {rs : List (Int × Int × Int)} (h : RowI base w v rs) (hl : rs.length ≤ 9223372036854775807) : ∃ a cap, v = .slice a rs.length cap ∧ InstOk w a rs := by
  have hc := fun (g : Nat) (hg : v.ownBlock = some g) => World.ownsRow.cells h hg
  rcases h.2 with ⟨hv, h0⟩ | ⟨g, cap, cur, rfl, hb, hg, hn, hm, hs, ht⟩
  · have : rs = [] := List.length_eq_zero_iff.1 h0
    subst this
    exact ⟨none, 0, hv, by simp, .inl rfl⟩
  · refine ⟨some ⟨g, 0, none⟩, cap, rfl, hl, .inr ⟨g, 0, rfl, fun i hi => ?_⟩⟩
    have hadd : ∀ j : Nat, (⟨g, 0, none⟩ : Addr).add j = ⟨g, j, none⟩ := fun j => by unfold Addr.add; split <;> simp_all
    have key : ∀ j, j < 4 → ∀ u, (instC (rs.getD i (0, 0, 0)))[j]? = some u → w.cell? ⟨g, 0 + i * 4 + j, none⟩ = some u := fun j hj u hu => by
      rw [← hadd, show 0 + i * 4 + j = 4 * i + j by omega]
      exact hc g rfl _ _ ((instC_get rs i j hi hj).trans hu)
    exact ⟨key 0 (by omega) _ rfl, key 1 (by omega) _ rfl, key 2 (by omega) _ rfl, key 3 (by omega) _ rfl⟩

/-- 'v = append(v, row)' on a row of the call's own. -/
theorem wpList_pushI {P : Program} {wr : World} {ops : Array Oper} {rest : List Oper} {o : Oper} {a : Act} {Q : Exit → Act → World → Prop} (hgd : o.guard = none) (s x : Operand) (t : TypeId)
    (ho : o.op = .call { callee := .builtin .append, args := #[s, x], argTypes := #[t, t] })
    (i : TypeInfo) (ht : P.underlying t = some (.slice 67)) (hi : P.info? 67 = some i) (z : Value) (hz : i.zero = some z) (hzc : z.cells.size = 4) (hsize : i.size = 4) (hby : i.bytes = 32)
    (base B : Nat) (w : World) (v : Value) (rs : List (Int × Int × Int)) (d e p : Int) (hs : a.eval s = v) (hown : RowI base wr v rs) (hnx : Below B w wr) (hB : B ≤ base) (hsz : base ≤ wr.heap.size)
    (hx : a.eval x = .slice (some ⟨wr.heap.size, 0, none⟩) 1 1) (hl : rs.length < 1048576)
    (h : ∀ v' w', RowI base w' v' (rs ++ [(d, e, p)]) → Below B w w' → base ≤ w'.heap.size → wpList P ops Q rest (a.put o.dst v') w') :
    wpList P ops Q (o :: rest) a (wr.alloc (.cells #[.int .i64 d, .int .i64 e, .int .i64 p, .bool false] 67)) := by
  refine wpList_append_own _ hgd s x t ho base _ i z 4 32 ht hi hz hsize hby hzc (by decide) v rs.length (rs.flatMap instC) hs (World.ownsRow.alloc hown _) ⟨wr.heap.size, 0, none⟩ 1 1 (instC (d, e, p)) hx rfl ?_ ?_ ?_ ?_ ?_ ?_
  · intro j u hj
    match j, hj with
    | 0, hj => simp [instC] at hj; subst hj; simp [Addr.add]
    | 1, hj => simp [instC] at hj; subst hj; simp [Addr.add]
    | 2, hj => simp [instC] at hj; subst hj; simp [Addr.add]
    | 3, hj => simp [instC] at hj; subst hj; simp [Addr.add]
  · intro u hu; simp [instC] at hu; rcases hu with rfl | rfl | rfl | rfl <;> rfl
  · unfold maxLen; omega
  · omega
  · simp; omega
  · intro v' w' hown' hgrow _
    have r1 : RowI base w' v' (rs ++ [(d, e, p)]) := by simpa [RowI] using hown'
    refine h v' w' r1 ((hnx.alloc (by omega) _).grown hgrow (by simp; omega) (fun j hj => by have := (hown.lt j hj).1; omega)) ?_
    have := hgrow.size
    simp at this
    omega
end Go.Proofs.YtgdmkcbbomfmdaaGreatDoor
