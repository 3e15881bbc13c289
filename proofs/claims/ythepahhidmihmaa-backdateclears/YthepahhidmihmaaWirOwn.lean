/-
  Ours: rows of bytes and of integers that a call has made: how they are read, grown, written and carried along.
-/
import Derived.WalkKit
import Derived.WalkSpells
import Derived.WalkLawsBesides
import Derived.RowKit3
import Derived.ArgAppend
import Derived.OwnWalk
import Derived.Laws.OwnMore
import Derived.Lib.AppendStr
namespace Go.Proofs.Ythepahhidmihmaa
open Go.RowKit

theorem grownBy_trans {a b c : World} {row : Option Nat} (h : a.grownBy b row) (k : b.grownBy c row) : a.grownBy c row :=
  ⟨k.os.trans h.os, k.tape.trans h.tape, k.output.trans h.output, Nat.le_trans h.size k.size, fun i hi hn => (k.block i (Nat.lt_of_lt_of_le hi h.size) hn).trans (h.block i hi hn)⟩
theorem grownBy_refl (a : World) (row : Option Nat) : a.grownBy a row := ⟨rfl, rfl, rfl, Nat.le_refl _, fun _ _ _ => rfl⟩
theorem grownBy_drewN {a b : World} {row : Option Nat} (h : a.grownBy b row) (n : Nat) : a.grownBy (b.drewN n) row := ⟨h.os, h.tape, h.output, h.size, h.block⟩
theorem grownBy_below {a b : World} (h : Below a.heap.size a b) (row : Option Nat) : a.grownBy b row := ⟨h.os, h.tape, h.output, h.size, fun k hk _ => h.block k hk⟩
theorem grownBy_none {a b : World} (h : a.grownBy b none) (row : Option Nat) : a.grownBy b row := ⟨h.os, h.tape, h.output, h.size, fun k hk _ => h.block k hk (by simp)⟩
theorem below_none {a b : World} (h : a.grownBy b none) : Below a.heap.size a b := ⟨h.os, h.tape, h.output, h.size, fun k hk => h.block k hk (by simp)⟩

/-- A byte as a value; an int64 (and an int) as a value. -/
def bv (c : Nat) : Value := .int .u8 (c : Int)
def iv (x : Int) : Value := .int .i64 x

/-- The slice value v, among blocks from 'base' on, holds just these cells. -/
abbrev RowV (e : TypeId) (base : Nat) (w : World) (v : Value) (vs : List Value) : Prop := w.ownsRow base e 1 v vs.length vs
abbrev RowB (e : TypeId) (base : Nat) (w : World) (v : Value) (bs : List Nat) : Prop := RowV e base w v (bs.map bv)

/-- The slice value v reads as the cells vs. -/
def Rd (w : World) (v : Value) (vs : List Value) : Prop :=
  ∃ ao cap, v = .slice ao vs.length cap ∧ vs.length ≤ cap ∧ (ao = none → cap = 0) ∧ ∀ i (h : i < vs.length), ∃ g o, ao = some ⟨g, o, none⟩ ∧ g < w.heap.size ∧ w.cell? ⟨g, o + i, none⟩ = some vs[i]
abbrev RdB (w : World) (v : Value) (bs : List Nat) : Prop := Rd w v (bs.map bv)

theorem RowV.nil (e : TypeId) (base : Nat) (w : World) : RowV e base w (.slice none 0 0) [] := World.ownsRow_nil _ _ _ _

theorem RowV.later {e : TypeId} {base : Nat} {w w' : World} {v : Value} {xs : List Value} (h : RowV e base w v xs) (hb : Below w.heap.size w w') : RowV e base w' v xs := by
  refine World.ownsRow.kept h (row := none) ⟨hb.os, hb.tape, hb.output, hb.size, fun k hk _ => hb.block k hk⟩ ?_
  cases hv : v.ownBlock <;> simp

theorem RowV.kept {e : TypeId} {base : Nat} {w w' : World} {v : Value} {row : Option Nat} {xs : List Value} (h : RowV e base w v xs) (hb : w.grownBy w' row) (hn : ∀ g, v.ownBlock = some g → row ≠ some g) : RowV e base w' v xs := by
  refine World.ownsRow.kept h hb ?_
  cases hv : v.ownBlock with
  | none => exact .inl rfl
  | some g => exact .inr fun e => hn g hv e.symm

theorem RowV.mono {e : TypeId} {base base' : Nat} {w : World} {v : Value} {xs : List Value} (h : RowV e base w v xs) (hb : base' ≤ base) : RowV e base' w v xs := by
  refine ⟨h.1, ?_⟩
  rcases h.2 with hn | ⟨g, cap, cur, hv, hg, rest⟩
  · exact .inl hn
  · exact .inr ⟨g, cap, cur, hv, Nat.le_trans hb hg, rest⟩

theorem RowV.drewN {e : TypeId} {base : Nat} {w : World} {v : Value} {xs : List Value} (h : RowV e base w v xs) (n : Nat) : RowV e base (w.drewN n) v xs := h

theorem RowV.rd {e : TypeId} {base : Nat} {w : World} {v : Value} {vs : List Value} (h : RowV e base w v vs) : Rd w v vs := by
  have hc := fun (g : Nat) (hg : v.ownBlock = some g) => World.ownsRow.cells h hg
  rcases h.2 with ⟨rfl, h0⟩ | ⟨g, cap, cur, rfl, hb, hg, hn, hm, hs, ht⟩
  · exact ⟨none, 0, by rw [h0], by omega, fun _ => rfl, fun i hi => by omega⟩
  · have lt := (Array.getElem?_eq_some_iff.1 hg).1
    refine ⟨some ⟨g, 0, none⟩, cap, rfl, hn, (by intro h; cases h), fun i hi => ⟨g, 0, rfl, lt, ?_⟩⟩
    have hadd : (⟨g, 0, none⟩ : Addr).add i = ⟨g, 0 + i, none⟩ := by unfold Addr.add; split <;> simp_all
    rw [← hadd]
    exact hc g rfl i _ (List.getElem?_eq_getElem hi)

theorem Rd.grown {w w' : World} {v : Value} {vs : List Value} {row : Option Nat} (h : Rd w v vs) (hg : w.grownBy w' row) (hn : ∀ g, v.ownBlock = some g → row ≠ some g) : Rd w' v vs := by
  obtain ⟨ao, cap, rfl, h1, h2, h3⟩ := h
  refine ⟨ao, cap, rfl, h1, h2, fun i hi => ?_⟩
  obtain ⟨g, o, rfl, lt, hc⟩ := h3 i hi
  refine ⟨g, o, rfl, Nat.lt_of_lt_of_le lt hg.size, ?_⟩
  rw [World.cell?_of_block (hg.block g lt (fun e => hn g rfl e.symm)), hc]
theorem Rd.later {w w' : World} {v : Value} {vs : List Value} (h : Rd w v vs) (hb : Below w.heap.size w w') : Rd w' v vs := h.grown (grownBy_below hb none) (fun _ _ => by simp)
theorem Rd.drewN {w : World} {v : Value} {vs : List Value} (h : Rd w v vs) (n : Nat) : Rd (w.drewN n) v vs := h

/-- The row's length, whatever its address. -/
theorem Rd.len {w : World} {v : Value} {vs : List Value} (h : Rd w v vs) : ∃ ao cap, v = .slice ao vs.length cap ∧ vs.length ≤ cap ∧ (ao = none → cap = 0) := by
  obtain ⟨ao, cap, e, h1, h2, _⟩ := h; exact ⟨ao, cap, e, h1, h2⟩

theorem below_trans {w w1 w2 : World} (h1 : Below w.heap.size w w1) (h2 : Below w1.heap.size w1 w2) : Below w.heap.size w w2 := h1.trans (h2.mono h1.size)
theorem below_alloc (w : World) (o : Obj) : Below w.heap.size w (w.alloc o) := (Below.refl _ _).alloc (Nat.le_refl _) o
theorem below_drewN {B : Nat} {w w1 : World} (h : Below B w w1) (n : Nat) : Below B w (w1.drewN n) := ⟨h.os, h.tape, h.output, h.size, h.block⟩
theorem below_grown {e : TypeId} {base B : Nat} {w w1 w2 : World} {v : Value} {vs : List Value} (h : Below B w w1) (hr : RowV e base w1 v vs) (hB : B ≤ base) (hs : B ≤ w1.heap.size) (hg : w1.grownBy w2 v.ownBlock) : Below B w w2 :=
  h.grown hg hs (fun k hk => Nat.le_trans hB (World.ownsRow.lt hr k hk).1)
theorem RowV.block_ge {e : TypeId} {base : Nat} {w : World} {v : Value} {xs : List Value} (h : RowV e base w v xs) {g : Nat} (hg : v.ownBlock = some g) : base ≤ g := (World.ownsRow.lt h g hg).1
theorem RowV.block_lt {e : TypeId} {base : Nat} {w : World} {v : Value} {xs : List Value} (h : RowV e base w v xs) {g : Nat} (hg : v.ownBlock = some g) : g < w.heap.size := (World.ownsRow.lt h g hg).2
/-- An elder row and a later one lie apart. -/
theorem row_apart {e e' : TypeId} {base base' : Nat} {w w' : World} {v v' : Value} {xs ys : List Value} (h : RowV e base w v xs) (h' : RowV e' base' w' v' ys) (hb : w.heap.size ≤ base') : ∀ g, v'.ownBlock = some g → v.ownBlock ≠ some g := by
  intro g h1 h2
  have := h.block_lt h2
  have := h'.block_ge h1
  omega

/-- 'v = append(v, y)' on a row of the call's own: one cell more. -/
theorem wpList_pushV {P : Program} {wr : World} {ops : Array Oper} {rest : List Oper} {o : Oper} {a : Act} {Q : Exit → Act → World → Prop} (hgd : o.guard = none) (s x : Operand) (t : TypeId)
    (ho : o.op = .call { callee := .builtin .append, args := #[s, x], argTypes := #[t, t] })
    (e : TypeId) (i : TypeInfo) (z : Value) (by' : Nat) (ht : P.underlying t = some (.slice e)) (hi : P.info? e = some i) (hz : i.zero = some z) (hsize : i.size = 1) (hby : i.bytes = by') (hzc : z.cells.size = 1)
    (base : Nat) (v : Value) (vs : List Value) (y : Value) (hy : y.oneCell' = true) (hs : a.eval s = v) (hown : RowV e base wr v vs) (hsz : base ≤ wr.heap.size)
    (hx : a.eval x = .slice (some ⟨wr.heap.size, 0, none⟩) 1 1) (hl : vs.length + 1 ≤ maxLen) (hl2 : (vs.length + 1) * by' ≤ 140737488355328)
    (h : ∀ v' w', RowV e base w' v' (vs ++ [y]) → wr.grownBy w' v.ownBlock → wpList P ops Q rest (a.put o.dst v') w') :
    wpList P ops Q (o :: rest) a (wr.alloc (.cells #[y] e)) := by
  refine wpList_append_own _ hgd s x t ho base e i z 1 by' ht hi hz hsize hby hzc (by decide) v vs.length vs hs (World.ownsRow.alloc hown _) ⟨wr.heap.size, 0, none⟩ 1 1 [y] hx rfl ?_ ?_ hl hl2 ?_ ?_
  · intro j u hj
    match j, hj with
    | 0, hj => simp at hj; subst hj; simp [Addr.add]
  · intro u hu; simp at hu; subst hu; exact hy
  · simp; omega
  · intro v' w' hown' hgrow _
    refine h v' w' (by simpa [RowV] using hown') ⟨hgrow.os, hgrow.tape, hgrow.output, Nat.le_trans (by simp) hgrow.size, fun k hk hn => ?_⟩
    rw [hgrow.block k (by simp; omega) hn]
    exact (below_alloc wr (.cells #[y] e)).block k hk

/-- 'v = append(v, x...)' on a row of the call's own: the cells of another slice. -/
theorem wpList_catV {P : Program} {wr : World} {ops : Array Oper} {rest : List Oper} {o : Oper} {a : Act} {Q : Exit → Act → World → Prop} (hgd : o.guard = none) (s x : Operand) (t : TypeId)
    (ho : o.op = .call { callee := .builtin .append, args := #[s, x], argTypes := #[t, t] })
    (e : TypeId) (i : TypeInfo) (z : Value) (by' : Nat) (ht : P.underlying t = some (.slice e)) (hi : P.info? e = some i) (hz : i.zero = some z) (hsize : i.size = 1) (hby : i.bytes = by') (hzc : z.cells.size = 1)
    (base : Nat) (v v2 : Value) (vs us : List Value) (hy : ∀ u ∈ us, u.oneCell' = true) (hs : a.eval s = v) (hown : RowV e base wr v vs) (hsz : base ≤ wr.heap.size)
    (hx : a.eval x = v2) (hr : Rd wr v2 us) (hl : vs.length + us.length ≤ maxLen) (hl2 : (vs.length + us.length) * by' ≤ 140737488355328)
    (h : ∀ v' w', RowV e base w' v' (vs ++ us) → wr.grownBy w' v.ownBlock → wpList P ops Q rest (a.put o.dst v') w') :
    wpList P ops Q (o :: rest) a wr := by
  obtain ⟨ao, cap, rfl, h1, h2, h3⟩ := hr
  by_cases hu : us.length = 0
  · obtain rfl : us = [] := List.eq_nil_of_length_eq_zero hu
    cases ao with
    | none =>
      obtain rfl := h2 rfl
      have hr : ∀ ty, (Builtin.append_ #[t, t] ty #[v, .slice none 0 0]).run P wr = .ok v wr := fun ty => run_append_owned_none (P := P) wr base t ty e i 1 ht hi v vs.length vs hown
      refine wpList_plain hgd fun K hK => ?_
      unfold Oper.wp execOp
      simp only [ho, resolve, invoke, builtin, Sem.run_bind, Sem.run_pure, Result.andThen_ok, List.map_toArray, List.map_cons, List.map_nil, hs, hx, List.length_nil, hr]
      exact hK _ _ (h _ _ (by simpa using hown) (grownBy_refl _ _))
    | some ad =>
      refine wpList_append_own _ hgd s x t ho base e i z 1 by' ht hi hz hsize hby hzc (by decide) v vs.length vs hs hown ad 0 cap [] hx (by simp) (by simp) (by simp) (by simpa using hl) (by simpa using hl2) hsz ?_
      intro v' w' hown' hgrow _
      exact h v' w' (by simpa [RowV] using hown') hgrow
  · obtain ⟨g, off, rfl, lt, _⟩ := h3 0 (by omega)
    refine wpList_append_own _ hgd s x t ho base e i z 1 by' ht hi hz hsize hby hzc (by decide) v vs.length vs hs hown ⟨g, off, none⟩ us.length cap us hx (by simp) ?_ hy hl hl2 hsz ?_
    · intro j u hj
      obtain ⟨hjl, rfl⟩ := List.getElem?_eq_some_iff.1 hj
      obtain ⟨g', o', e1, _, hc⟩ := h3 j hjl
      cases e1
      have hadd : (⟨g, off, none⟩ : Addr).add j = ⟨g, off + j, none⟩ := by unfold Addr.add; split <;> simp_all
      rw [hadd]; exact hc
    · intro v' w' hown' hgrow _
      exact h v' w' (by simpa [RowV] using hown') hgrow
end Go.Proofs.Ythepahhidmihmaa
