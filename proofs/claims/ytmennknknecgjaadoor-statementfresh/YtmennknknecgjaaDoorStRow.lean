/-
  Ours: movements: fourteen numbers each (the day, the kind, the twelve nets): as they read, as a call has made them.
-/
import Derived.Test.YtmennknknecgjaaDoorLedRTot
import Derived.Test.YtmennknknecgjaaDoorScPsh
namespace Go.Proofs.YtmennknknecgjaaDoor
open Go.RowKit LedM

namespace StM
/-- A movement: fourteen int64. -/
def MoOk (m : List Int) : Prop := m.length = 14 ∧ ∀ k, i64 (m.getD k 0)
def T14 (ms : List (List Int)) : Prop := ∀ m ∈ ms, m.length = 14
theorem T14.nil : T14 [] := fun b hb => by cases hb
theorem T14.tail {b : List Int} {bs : List (List Int)} (h : T14 (b :: bs)) : T14 bs := fun c hc => h c (List.mem_cons_of_mem _ hc)
theorem T14.app {bs cs : List (List Int)} (h : T14 bs) (k : T14 cs) : T14 (bs ++ cs) := fun b hb => (List.mem_append.1 hb).elim (h b) (k b)
theorem T14.take {bs : List (List Int)} (h : T14 bs) (k : Nat) : T14 (bs.take k) := fun b hb => h b (List.mem_of_mem_take hb)
theorem T14.one {b : List Int} (h : b.length = 14) : T14 [b] := fun c hc => by rw [List.mem_singleton] at hc; rw [hc]; exact h
theorem T14.of_ok {ms : List (List Int)} (h : ∀ m ∈ ms, MoOk m) : T14 ms := fun m hm => (h m hm).1
theorem T14.filter {bs : List (List Int)} (h : T14 bs) (p : List Int → Bool) : T14 (bs.filter p) := fun b hb => h b (List.mem_filter.1 hb).1
theorem msL_len : ∀ {bs : List (List Int)}, T14 bs → (bksL bs).length = bs.length * 14
  | [], _ => rfl
  | b :: r, h => by
    have ih := msL_len h.tail
    have hb := h b (List.mem_cons_self ..)
    simp only [bksL, List.flatMap_cons, List.length_append, List.length_cons] at ih ⊢
    rw [bkL_len, hb]; omega
theorem msL_at : ∀ {bs : List (List Int)}, T14 bs → ∀ (i j : Nat) (m : List Int), bs[i]? = some m → j < 14 → (bksL bs)[i * 14 + j]? = (bkL m)[j]?
  | b :: r, h, 0, j, m, hm, hj => by
    have hb := h b (List.mem_cons_self ..)
    simp at hm
    subst hm
    rw [Nat.zero_mul, Nat.zero_add]
    show (bkL b ++ bksL r)[j]? = _
    rw [List.getElem?_append_left (by rw [bkL_len, hb]; exact hj)]
  | b :: r, h, i + 1, j, m, hm, hj => by
    have hb := h b (List.mem_cons_self ..)
    have ih := msL_at h.tail i j m (by simpa using hm) hj
    show (bkL b ++ bksL r)[(i + 1) * 14 + j]? = _
    rw [List.getElem?_append_right (by rw [bkL_len, hb]; omega)]
    rw [show (i + 1) * 14 + j - (bkL b).length = i * 14 + j from by rw [bkL_len, hb]; omega, ih]
theorem msL_push (ms : List (List Int)) (m : List Int) : bksL (ms ++ [m]) = bksL ms ++ bkL m := by simp [bksL]
theorem take_push {ms : List (List Int)} {i : Nat} {m : List Int} (h : ms[i]? = some m) : ms.take (i + 1) = ms.take i ++ [m] := by rw [List.take_add_one, h]; rfl
theorem list14 {m : List Int} (h : m.length = 14) : ∃ d k x0 x1 x2 x3 x4 x5 x6 x7 x8 x9 x10 x11, m = [d, k, x0, x1, x2, x3, x4, x5, x6, x7, x8, x9, x10, x11] := by
  match m, h with
  | [d, k, x0, x1, x2, x3, x4, x5, x6, x7, x8, x9, x10, x11], _ => exact ⟨d, k, x0, x1, x2, x3, x4, x5, x6, x7, x8, x9, x10, x11, rfl⟩
/-- The changes of the movements up to a day. -/
def upl (ms : List (List Int)) (d : Int) : List (List Int) := (ms.filter fun m => decide (m.getD 0 0 ≤ d)).map (·.drop 2)
/-- The movements of the days from one to another. -/
def win (ms : List (List Int)) (a b : Int) : List (List Int) := ms.filter fun m => decide (a ≤ m.getD 0 0) && decide (m.getD 0 0 ≤ b)
theorem upl_push (ms : List (List Int)) (m : List Int) (d : Int) : upl (ms ++ [m]) d = upl ms d ++ if m.getD 0 0 ≤ d then [m.drop 2] else [] := by
  unfold upl
  rw [List.filter_append, List.map_append]
  congr 1
  by_cases h : m.getD 0 0 ≤ d
  · rw [if_pos h, List.filter_cons_of_pos (by simpa using h)]; rfl
  · rw [if_neg h, List.filter_cons_of_neg (by simpa using h)]; rfl
theorem win_push (ms : List (List Int)) (m : List Int) (a b : Int) : win (ms ++ [m]) a b = win ms a b ++ if a ≤ m.getD 0 0 ∧ m.getD 0 0 ≤ b then [m] else [] := by
  unfold win
  rw [List.filter_append]
  congr 1
  by_cases h : a ≤ m.getD 0 0 ∧ m.getD 0 0 ≤ b
  · rw [if_pos h, List.filter_cons_of_pos (by simpa using h)]; rfl
  · rw [if_neg h, List.filter_cons_of_neg (by simpa using h)]; rfl
theorem upl_ok {ms : List (List Int)} (h : ∀ m ∈ ms, MoOk m) (d : Int) : ∀ b ∈ upl ms d, BkOk b := fun b hb => by
  unfold upl at hb
  obtain ⟨m, hm, rfl⟩ := List.mem_map.1 hb
  obtain ⟨h1, h2⟩ := h m (List.mem_filter.1 hm).1
  refine ⟨by rw [List.length_drop, h1], fun k => ?_⟩
  have := h2 (2 + k)
  rwa [List.getD_eq_getElem?_getD, ← List.getElem?_drop, ← List.getD_eq_getElem?_getD] at this
theorem upl_tw {ms : List (List Int)} (h : T14 ms) (d : Int) : Tw (upl ms d) := fun b hb => by
  unfold upl at hb
  obtain ⟨m, hm, rfl⟩ := List.mem_map.1 hb
  rw [List.length_drop, h m (List.mem_filter.1 hm).1]
theorem upl_le (ms : List (List Int)) (d : Int) : (upl ms d).length ≤ ms.length := by unfold upl; rw [List.length_map]; exact List.length_filter_le _ _
theorem win_le (ms : List (List Int)) (a b : Int) : (win ms a b).length ≤ ms.length := List.length_filter_le _ _
end StM
open StM

/-- The slice value v reads as these movements. -/
def RdMo (w : World) (v : Value) (ms : List (List Int)) : Prop :=
  ∃ ao cap, v = .slice ao ms.length cap ∧ ms.length ≤ cap ∧ (ao = none → cap = 0) ∧ ∀ (i : Nat) (m : List Int), ms[i]? = some m → ∃ g o, ao = some ⟨g, o, none⟩ ∧ g < w.heap.size ∧ w.rangeAt g (o + i * 14) (bkL m)
theorem RdMo.later {w w' : World} {v : Value} {ms : List (List Int)} (h : RdMo w v ms) (hb : Below w.heap.size w w') : RdMo w' v ms := by
  obtain ⟨ao, cap, rfl, h1, h2, h3⟩ := h
  refine ⟨ao, cap, rfl, h1, h2, fun i m hi => ?_⟩
  obtain ⟨g, o, e, lt, r⟩ := h3 i m hi
  exact ⟨g, o, e, Nat.lt_of_lt_of_le lt hb.size, range_laterB r lt hb⟩
theorem RdMo.grown {w w' : World} {v : Value} {ms : List (List Int)} {row : Option Nat} (h : RdMo w v ms) (hg : w.grownBy w' row) (hn : ∀ g, v.ownBlock = some g → row ≠ some g) : RdMo w' v ms := by
  obtain ⟨ao, cap, rfl, h1, h2, h3⟩ := h
  refine ⟨ao, cap, rfl, h1, h2, fun i m hi => ?_⟩
  obtain ⟨g, o, rfl, lt, r⟩ := h3 i m hi
  exact ⟨g, o, rfl, Nat.lt_of_lt_of_le lt hg.size, fun j u hj => by rw [World.cell?_of_block (hg.block g lt (fun e => hn g rfl e.symm))]; exact r j u hj⟩
theorem RdMo.take {w : World} {a : Option Addr} {n c : Nat} {ms : List (List Int)} (h : RdMo w (.slice a n c) ms) {k : Nat} (hk : k ≤ n) : RdMo w (.slice a k c) (ms.take k) := by
  obtain ⟨ao, cap, e, h1, h2, h3⟩ := h
  injection e with e1 e2 e3
  subst e1 e2 e3
  refine ⟨_, _, by rw [List.length_take, Nat.min_eq_left hk], by rw [List.length_take]; omega, h2, fun i m hi => ?_⟩
  have hl := (List.getElem?_eq_some_iff.1 hi).1
  rw [List.length_take] at hl
  rw [List.getElem?_take, if_pos (by omega)] at hi
  exact h3 i m hi
theorem RdMo.len {w : World} {v : Value} {ms : List (List Int)} (h : RdMo w v ms) : ∃ ao cap, v = .slice ao ms.length cap ∧ ms.length ≤ cap ∧ (ao = none → cap = 0) := by
  obtain ⟨ao, cap, e, h1, h2, _⟩ := h; exact ⟨ao, cap, e, h1, h2⟩

/-- Movements that lie among blocks from 'base' on. -/
abbrev RowMo (base : Nat) (w : World) (v : Value) (ms : List (List Int)) : Prop := w.ownsRow base 29 14 v ms.length (bksL ms)
theorem RowMo.nil (base : Nat) (w : World) : RowMo base w (.slice none 0 0) [] := World.ownsRow_nil _ _ _ _
theorem RowMo.later {base : Nat} {w w' : World} {v : Value} {ms : List (List Int)} (h : RowMo base w v ms) (hb : Below w.heap.size w w') : RowMo base w' v ms := by
  refine World.ownsRow.kept h (row := none) ⟨hb.os, hb.tape, hb.output, hb.size, fun k hk _ => hb.block k hk⟩ ?_
  cases hv : v.ownBlock <;> simp
theorem RowMo.kept {base : Nat} {w w' : World} {v : Value} {row : Option Nat} {ms : List (List Int)} (h : RowMo base w v ms) (hb : w.grownBy w' row) (hn : ∀ g, v.ownBlock = some g → row ≠ some g) : RowMo base w' v ms := by
  refine World.ownsRow.kept h hb ?_
  cases hv : v.ownBlock with
  | none => exact .inl rfl
  | some g => exact .inr fun e => hn g hv e.symm
theorem RowMo.ge {base : Nat} {w : World} {v : Value} {ms : List (List Int)} (h : RowMo base w v ms) {g : Nat} (hg : v.ownBlock = some g) : base ≤ g := (World.ownsRow.lt h g hg).1
theorem RowMo.lt {base : Nat} {w : World} {v : Value} {ms : List (List Int)} (h : RowMo base w v ms) {g : Nat} (hg : v.ownBlock = some g) : g < w.heap.size := (World.ownsRow.lt h g hg).2
theorem RowMo.rd {base : Nat} {w : World} {v : Value} {ms : List (List Int)} (h : RowMo base w v ms) (ht : T14 ms) : RdMo w v ms := by
  have hc := fun (g : Nat) (hg : v.ownBlock = some g) => World.ownsRow.cells h hg
  have hlt := fun (g : Nat) (hg : v.ownBlock = some g) => h.lt hg
  rcases h.2 with ⟨hv, h0⟩ | ⟨g, cap, cur, rfl, hb, hg, hn, hm, hcs, htk⟩
  · have e0 : ms = [] := List.eq_nil_of_length_eq_zero h0
    subst e0
    exact ⟨none, 0, hv, Nat.le_refl _, fun _ => rfl, fun i m hi => by simp at hi⟩
  · refine ⟨some ⟨g, 0, none⟩, cap, rfl, hn, (fun h => by cases h), fun i m hi => ⟨g, 0, rfl, hlt g rfl, fun j v hv => ?_⟩⟩
    have hj : j < 14 := by have := (List.getElem?_eq_some_iff.1 hv).1; rwa [bkL_len, ht m (List.mem_of_getElem? hi)] at this
    have := hc g rfl (i * 14 + j) v (by rw [msL_at ht i j m hi hj]; exact hv)
    have hadd : (⟨g, 0, none⟩ : Addr).add (i * 14 + j) = ⟨g, i * 14 + j, none⟩ := by unfold Addr.add; split <;> simp_all
    rw [hadd] at this
    rw [Nat.zero_add]
    exact this
theorem infoM14 : (Tryd.prog.info? 29).map (fun i => (i.zero, i.size, i.bytes)) = some (some (.agg #[.int .i64 0, .int .i64 0, .int .i64 0, .int .i64 0, .int .i64 0, .int .i64 0, .int .i64 0, .int .i64 0, .int .i64 0, .int .i64 0, .int .i64 0, .int .i64 0, .int .i64 0, .int .i64 0]), 14, 112) := by kernel_rfl
theorem cellsMo : (Tryd.prog.info? 29).map (·.size) = some 14 := by kernel_rfl
theorem infoMl {l : List Int} (h : l.length = 14) : (Tryd.prog.info? 29).map (·.size) = some (bkL l).length := by rw [bkL_len, h]; exact cellsMo
end Go.Proofs.YtmennknknecgjaaDoor
