/-
  Ours: how the arguments of a statement read: bytes, integers; what a bound on their bulk gives; all of them read alike behind a call that leaves what lay there.
-/
import Derived.WalkKit
import Derived.WalkSpells
import Derived.WalkLawsBesides
import Derived.RowKit3
import Derived.ArgAppend
import Derived.OwnWalk
import Derived.Laws.OwnMore
import Derived.Lib.AppendStr
import Derived.Test.YtgdmkcbbomfmdaaGreatDoorRows
import Derived.ProofKit
import Derived.OpenShut
import Derived.ChangeOld
import Derived.Below
import Derived.Carry
import Derived.JoinedCond
import Derived.SizedLaws
namespace Go.Proofs.YtgdmkcbbomfmdaaGreatDoor
open Go.RowKit

theorem grownBy_trans {a b c : World} {row : Option Nat} (h : a.grownBy b row) (k : b.grownBy c row) : a.grownBy c row :=
  ⟨k.os.trans h.os, k.tape.trans h.tape, k.output.trans h.output, Nat.le_trans h.size k.size, fun i hi hn => (k.block i (Nat.lt_of_lt_of_le hi h.size) hn).trans (h.block i hi hn)⟩
theorem grownBy_refl (a : World) (row : Option Nat) : a.grownBy a row := ⟨rfl, rfl, rfl, Nat.le_refl _, fun _ _ _ => rfl⟩
theorem grownBy_drewN {a b : World} {row : Option Nat} (h : a.grownBy b row) (n : Nat) : a.grownBy (b.drewN n) row := ⟨h.os, h.tape, h.output, h.size, h.block⟩
theorem grownBy_below {a b : World} (h : Below a.heap.size a b) (row : Option Nat) : a.grownBy b row := ⟨h.os, h.tape, h.output, h.size, fun k hk _ => h.block k hk⟩
theorem grownBy_none {a b : World} (h : a.grownBy b none) (row : Option Nat) : a.grownBy b row := ⟨h.os, h.tape, h.output, h.size, fun k hk _ => h.block k hk (by simp)⟩
theorem below_none {a b : World} (h : a.grownBy b none) : Below a.heap.size a b := ⟨h.os, h.tape, h.output, h.size, fun k hk => h.block k hk (by simp)⟩

/-- A byte as a value; an int64 (and an int) as a value. -/
def bv (c : Nat) : Value := .int .u8 (c : Int)
def iv (x : Int) : Value := .int .i64 x

/-- The slice value v, among blocks from 'base' on, holds just these cells. -/
abbrev RowV (e : TypeId) (base : Nat) (w : World) (v : Value) (vs : List Value) : Prop := w.ownsRow base e 1 v vs.length vs
abbrev RowB (e : TypeId) (base : Nat) (w : World) (v : Value) (bs : List Nat) : Prop := RowV e base w v (bs.map bv)

/-- The slice value v reads as the cells vs. -/
def Rd (w : World) (v : Value) (vs : List Value) : Prop :=
  ∃ ao cap, v = .slice ao vs.length cap ∧ vs.length ≤ cap ∧ (ao = none → cap = 0) ∧ ∀ i (h : i < vs.length), ∃ g o, ao = some ⟨g, o, none⟩ ∧ g < w.heap.size ∧ w.cell? ⟨g, o + i, none⟩ = some vs[i]
abbrev RdB (w : World) (v : Value) (bs : List Nat) : Prop := Rd w v (bs.map bv)

theorem RowV.nil (e : TypeId) (base : Nat) (w : World) : RowV e base w (.slice none 0 0) [] := World.ownsRow_nil _ _ _ _

theorem RowV.later {e : TypeId} {base : Nat} {w w' : World} {v : Value} {xs : List Value} (h : RowV e base w v xs) (hb : Below w.heap.size w w') : RowV e base w' v xs := by
  refine World.ownsRow.kept h (row := none) ⟨hb.os, hb.tape, hb.output, hb.size, fun k hk _ => hb.block k hk⟩ ?_
  cases hv : v.ownBlock <;> simp

theorem RowV.kept {e : TypeId} {base : Nat} {w w' : World} {v : Value} {row : Option Nat} {xs : List Value} (h : RowV e base w v xs) (hb : w.grownBy w' row) (hn : ∀ g, v.ownBlock = some g → row ≠ some g) : RowV e base w' v xs := by
  refine World.ownsRow.kept h hb ?_
  cases hv : v.ownBlock with
  | none => exact .inl rfl
  | some g => exact .inr fun e => hn g hv e.symm

theorem RowV.mono {e : TypeId} {base base' : Nat} {w : World} {v : Value} {xs : List Value} (h : RowV e base w v xs) (hb : base' ≤ base) : RowV e base' w v xs := by
  refine ⟨h.1, ?_⟩
  rcases h.2 with hn | ⟨g, cap, cur, hv, hg, rest⟩
  · exact .inl hn
  · exact .inr ⟨g, cap, cur, hv, Nat.le_trans hb hg, rest⟩

theorem RowV.drewN {e : TypeId} {base : Nat} {w : World} {v : Value} {xs : List Value} (h : RowV e base w v xs) (n : Nat) : RowV e base (w.drewN n) v xs := h

theorem RowV.rd {e : TypeId} {base : Nat} {w : World} {v : Value} {vs : List Value} (h : RowV e base w v vs) : Rd w v vs := by
  have hc := fun (g : Nat) (hg : v.ownBlock = some g) => World.ownsRow.cells h hg
  rcases h.2 with ⟨rfl, h0⟩ | ⟨g, cap, cur, rfl, hb, hg, hn, hm, hs, ht⟩
  · exact ⟨none, 0, by rw [h0], by omega, fun _ => rfl, fun i hi => by omega⟩
  · have lt := (Array.getElem?_eq_some_iff.1 hg).1
    refine ⟨some ⟨g, 0, none⟩, cap, rfl, hn, (by intro h; cases h), fun i hi => ⟨g, 0, rfl, lt, ?_⟩⟩
    have hadd : (⟨g, 0, none⟩ : Addr).add i = ⟨g, 0 + i, none⟩ := by unfold Addr.add; split <;> simp_all
    rw [← hadd]
    exact hc g rfl i _ (List.getElem?_eq_getElem hi)

theorem Rd.grown {w w' : World} {v : Value} {vs : List Value} {row : Option Nat} (h : Rd w v vs) (hg : w.grownBy w' row) (hn : ∀ g, v.ownBlock = some g → row ≠ some g) : Rd w' v vs := by
  obtain ⟨ao, cap, rfl, h1, h2, h3⟩ := h
  refine ⟨ao, cap, rfl, h1, h2, fun i hi => ?_⟩
  obtain ⟨g, o, rfl, lt, hc⟩ := h3 i hi
  refine ⟨g, o, rfl, Nat.lt_of_lt_of_le lt hg.size, ?_⟩
  rw [World.cell?_of_block (hg.block g lt (fun e => hn g rfl e.symm)), hc]
theorem Rd.later {w w' : World} {v : Value} {vs : List Value} (h : Rd w v vs) (hb : Below w.heap.size w w') : Rd w' v vs := h.grown (grownBy_below hb none) (fun _ _ => by simp)
theorem Rd.drewN {w : World} {v : Value} {vs : List Value} (h : Rd w v vs) (n : Nat) : Rd (w.drewN n) v vs := h

/-- The row's length, whatever its address. -/
theorem Rd.len {w : World} {v : Value} {vs : List Value} (h : Rd w v vs) : ∃ ao cap, v = .slice ao vs.length cap ∧ vs.length ≤ cap ∧ (ao = none → cap = 0) := by
  obtain ⟨ao, cap, e, h1, h2, _⟩ := h; exact ⟨ao, cap, e, h1, h2⟩

theorem below_trans {w w1 w2 : World} (h1 : Below w.heap.size w w1) (h2 : Below w1.heap.size w1 w2) : Below w.heap.size w w2 := h1.trans (h2.mono h1.size)
theorem below_alloc (w : World) (o : Obj) : Below w.heap.size w (w.alloc o) := (Below.refl _ _).alloc (Nat.le_refl _) o
theorem below_drewN {B : Nat} {w w1 : World} (h : Below B w w1) (n : Nat) : Below B w (w1.drewN n) := ⟨h.os, h.tape, h.output, h.size, h.block⟩
theorem below_grown {e : TypeId} {base B : Nat} {w w1 w2 : World} {v : Value} {vs : List Value} (h : Below B w w1) (hr : RowV e base w1 v vs) (hB : B ≤ base) (hs : B ≤ w1.heap.size) (hg : w1.grownBy w2 v.ownBlock) : Below B w w2 :=
  h.grown hg hs (fun k hk => Nat.le_trans hB (World.ownsRow.lt hr k hk).1)
theorem RowV.block_ge {e : TypeId} {base : Nat} {w : World} {v : Value} {xs : List Value} (h : RowV e base w v xs) {g : Nat} (hg : v.ownBlock = some g) : base ≤ g := (World.ownsRow.lt h g hg).1
theorem RowV.block_lt {e : TypeId} {base : Nat} {w : World} {v : Value} {xs : List Value} (h : RowV e base w v xs) {g : Nat} (hg : v.ownBlock = some g) : g < w.heap.size := (World.ownsRow.lt h g hg).2
/-- An elder row and a later one lie apart. -/
theorem row_apart {e e' : TypeId} {base base' : Nat} {w w' : World} {v v' : Value} {xs ys : List Value} (h : RowV e base w v xs) (h' : RowV e' base' w' v' ys) (hb : w.heap.size ≤ base') : ∀ g, v'.ownBlock = some g → v.ownBlock ≠ some g := by
  intro g h1 h2
  have := h.block_lt h2
  have := h'.block_ge h1
  omega

/-- 'v = append(v, y)' on a row of the call's own: one cell more. -/
theorem wpList_pushV {P : Program} {wr : World} {ops : Array Oper} {rest : List Oper} {o : Oper} {a : Act} {Q : Exit → Act → World → Prop} (hgd : o.guard = none) (s x : Operand) (t : TypeId)
    (ho : o.op = .call { callee := .builtin .append, args := #[s, x], argTypes := #[t, t] })
    (e : TypeId) (i : TypeInfo) (z : Value) (by' : Nat) (ht : P.underlying t = some (.slice e)) (hi : P.info? e = some i) (hz : i.zero = some z) (hsize : i.size = 1) (hby : i.bytes = by') (hzc : z.cells.size = 1)
    (base : Nat) (v : Value) (vs : List Value) (y : Value) (hy : y.oneCell' = true) (hs : a.eval s = v) (hown : RowV e base wr v vs) (hsz : base ≤ wr.heap.size)
    (hx : a.eval x = .slice (some ⟨wr.heap.size, 0, none⟩) 1 1) (hl : vs.length + 1 ≤ maxLen) (hl2 : (vs.length + 1) * by' ≤ 140737488355328)
    (h : ∀ v' w', RowV e base w' v' (vs ++ [y]) → wr.grownBy w' v.ownBlock → wpList P ops Q rest (a.put o.dst v') w') :
    wpList P ops Q (o :: rest) a (wr.alloc (.cells #[y] e)) := by
  refine wpList_append_own _ hgd s x t ho base e i z 1 by' ht hi hz hsize hby hzc (by decide) v vs.length vs hs (World.ownsRow.alloc hown _) ⟨wr.heap.size, 0, none⟩ 1 1 [y] hx rfl ?_ ?_ hl hl2 ?_ ?_
  · intro j u hj
    match j, hj with
    | 0, hj => simp at hj; subst hj; simp [Addr.add]
  · intro u hu; simp at hu; subst hu; exact hy
  · simp; omega
  · intro v' w' hown' hgrow _
    refine h v' w' (by simpa [RowV] using hown') ⟨hgrow.os, hgrow.tape, hgrow.output, Nat.le_trans (by simp) hgrow.size, fun k hk hn => ?_⟩
    rw [hgrow.block k (by simp; omega) hn]
    exact (below_alloc wr (.cells #[y] e)).block k hk

/-- 'v = append(v, x...)' on a row of the call's own: the cells of another slice. -/
theorem wpList_catV {P : Program} {wr : World} {ops : Array Oper} {rest : List Oper} {o : Oper} {a : Act} {Q : Exit → Act → World → Prop} (hgd : o.guard = none) (s x : Operand) (t : TypeId)
    (ho : o.op = .call { callee := .builtin .append, args := #[s, x], argTypes := #[t, t] })
    (e : TypeId) (i : TypeInfo) (z : Value) (by' : Nat) (ht : P.underlying t = some (.slice e)) (hi : P.info? e = some i) (hz : i.zero = some z) (hsize : i.size = 1) (hby : i.bytes = by') (hzc : z.cells.size = 1)
    (base : Nat) (v v2 : Value) (vs us : List Value) (hy : ∀ u ∈ us, u.oneCell' = true) (hs : a.eval s = v) (hown : RowV e base wr v vs) (hsz : base ≤ wr.heap.size)
    (hx : a.eval x = v2) (hr : Rd wr v2 us) (hl : vs.length + us.length ≤ maxLen) (hl2 : (vs.length + us.length) * by' ≤ 140737488355328)
    (h : ∀ v' w', RowV e base w' v' (vs ++ us) → wr.grownBy w' v.ownBlock → wpList P ops Q rest (a.put o.dst v') w') :
    wpList P ops Q (o :: rest) a wr := by
  obtain ⟨ao, cap, rfl, h1, h2, h3⟩ := hr
  by_cases hu : us.length = 0
  · obtain rfl : us = [] := List.eq_nil_of_length_eq_zero hu
    cases ao with
    | none =>
      obtain rfl := h2 rfl
      have hr : ∀ ty, (Builtin.append_ #[t, t] ty #[v, .slice none 0 0]).run P wr = .ok v wr := fun ty => run_append_owned_none (P := P) wr base t ty e i 1 ht hi v vs.length vs hown
      refine wpList_plain hgd fun K hK => ?_
      unfold Oper.wp execOp
      simp only [ho, resolve, invoke, builtin, Sem.run_bind, Sem.run_pure, Result.andThen_ok, List.map_toArray, List.map_cons, List.map_nil, hs, hx, List.length_nil, hr]
      exact hK _ _ (h _ _ (by simpa using hown) (grownBy_refl _ _))
    | some ad =>
      refine wpList_append_own _ hgd s x t ho base e i z 1 by' ht hi hz hsize hby hzc (by decide) v vs.length vs hs hown ad 0 cap [] hx (by simp) (by simp) (by simp) (by simpa using hl) (by simpa using hl2) hsz ?_
      intro v' w' hown' hgrow _
      exact h v' w' (by simpa [RowV] using hown') hgrow
  · obtain ⟨g, off, rfl, lt, _⟩ := h3 0 (by omega)
    refine wpList_append_own _ hgd s x t ho base e i z 1 by' ht hi hz hsize hby hzc (by decide) v vs.length vs hs hown ⟨g, off, none⟩ us.length cap us hx (by simp) ?_ hy hl hl2 hsz ?_
    · intro j u hj
      obtain ⟨hjl, rfl⟩ := List.getElem?_eq_some_iff.1 hj
      obtain ⟨g', o', e1, _, hc⟩ := h3 j hjl
      cases e1
      have hadd : (⟨g, off, none⟩ : Addr).add j = ⟨g, off + j, none⟩ := by unfold Addr.add; split <;> simp_all
      rw [hadd]; exact hc
    · intro v' w' hown' hgrow _
      exact h v' w' (by simpa [RowV] using hown') hgrow
end Go.Proofs.YtgdmkcbbomfmdaaGreatDoor

namespace Go.Proofs.YtgdmkcbbomfmdaaGreatDoor
open Go.ChangeShapes Go.WideShapes Go.ChangeAt Go.RowKit

theorem own : ownKnob Tryz.prog.godebug = none := by kernel_rfl
theorem laidOut : laidOutB Tryz.prog = true := by kernel_rfl

theorem bounds {x : Int} (h : (Lit.int .i64 x).wf = true) : -9223372036854775808 ≤ x ∧ x ≤ 9223372036854775807 := by
  simp [Lit.wf, IntKind.min, IntKind.max, IntKind.signed, IntKind.bits] at h
  exact ⟨by omega, by omega⟩
theorem bounds8 {x : Int} (h : (Lit.int .u8 x).wf = true) : 0 ≤ x ∧ x ≤ 255 := by
  simp [Lit.wf, IntKind.min, IntKind.max, IntKind.signed, IntKind.bits] at h
  exact ⟨by omega, by omega⟩
theorem bounds64 {x : Int} (h : (Lit.int .u64 x).wf = true) : ∃ n : Nat, x = (n : Int) ∧ n < 18446744073709551616 := by
  simp [Lit.wf, IntKind.min, IntKind.max, IntKind.signed, IntKind.bits] at h
  exact ⟨x.toNat, by omega, by omega⟩

section
variable {H : Type} {enc : TypeId × Value → H} {W : World}

/-- A slice that came in. -/
theorem ints_open {t e : TypeId} {k : IntKind} {a : Option Addr} {len cap : Nat} {d : DataW H} {ps : List MemPlace} (ht : Tryz.prog.underlying t = some (.slice e)) (he : Tryz.prog.underlying e = some (.int k)) (hc : Tryz.prog.cellsOf e = 1)
    (h : DataW.Trod enc Tryz.prog W 0 (fun _ => true) true t (.slice a len cap) d ps) :
    ∃ zs : List Int, zs.length = len ∧ Rd W (.slice a len cap) (zs.map (Value.int k)) ∧ (∀ z ∈ zs, (Lit.int k z).wf = true) ∧ ((d = .nil ∧ len = 0) ∨ ∃ elems spare, d = .slice elems spare ∧ elems.length = len ∧ elems.length + spare.length = cap) := by
  obtain ⟨fuel, hf⟩ := h
  rcases open_ints ht he hc hf with ⟨hcs, hx⟩ | ⟨x, l, c, zs, hcs, _, hl, hm, hz, hx, hcell, hwz⟩
  · simp [Value.cells] at hcs
    obtain ⟨rfl, rfl, rfl⟩ := hcs
    cases hx
    exact ⟨[], rfl, ⟨none, 0, rfl, by simp, fun _ => rfl, fun i hi => by simp at hi⟩, by simp, .inl ⟨rfl, rfl⟩⟩
  · simp [Value.cells] at hcs
    obtain ⟨rfl, rfl, rfl⟩ := hcs
    cases hx
    simp at hz
    have hl' : (zs.take len).length = len := by rw [List.length_take]; omega
    refine ⟨zs.take len, hl', ⟨some x, cap, by rw [List.length_map, hl'], by rw [List.length_map, hl']; exact hl, (fun h => by cases h), fun i hi => ?_⟩, fun z hz => hwz z (List.mem_of_mem_take hz), .inr ⟨_, _, rfl, by simp [lits]; omega, by simp [lits]; omega⟩⟩
    rw [List.length_map, hl'] at hi
    have c0 := hcell i (by omega)
    obtain ⟨b, off, spot⟩ := x
    have hspot : spot = none := by
      have := World.cell?_spot (hcell 0 (by omega))
      simpa [Addr.add] using this
    subst hspot
    have hadd : (⟨b, off, none⟩ : Addr).add i = ⟨b, off + i, none⟩ := by unfold Addr.add; split <;> simp_all
    rw [hadd] at c0
    refine ⟨b, off, rfl, World.block_lt_of_cell? W _ c0, ?_⟩
    rw [c0]
    have hlt : i < zs.length := by omega
    simp [List.getD_eq_getElem?_getD, List.getElem?_eq_getElem hlt]

/-- Bytes that came in. -/
theorem bytes_open {t e : TypeId} {a : Option Addr} {len cap : Nat} {d : DataW H} {ps : List MemPlace} (ht : Tryz.prog.underlying t = some (.slice e)) (he : Tryz.prog.underlying e = some (.int .u8)) (hc : Tryz.prog.cellsOf e = 1)
    (h : DataW.Trod enc Tryz.prog W 0 (fun _ => true) true t (.slice a len cap) d ps) :
    ∃ bs : List Nat, bs.length = len ∧ RdB W (.slice a len cap) bs ∧ (∀ z ∈ bs, z < 256) ∧ ((d = .nil ∧ len = 0) ∨ ∃ elems spare, d = .slice elems spare ∧ elems.length = len ∧ elems.length + spare.length = cap) := by
  obtain ⟨zs, h1, h2, h3, h4⟩ := ints_open ht he hc h
  refine ⟨zs.map Int.toNat, by rw [List.length_map]; exact h1, ?_, fun z hz => ?_, h4⟩
  · have e : (zs.map Int.toNat).map bv = zs.map (Value.int .u8) := by
      rw [List.map_map]
      apply List.map_congr_left
      intro z hz
      have := bounds8 (h3 z hz)
      simp [bv]; omega
    rw [RdB, e]; exact h2
  · obtain ⟨y, hy, rfl⟩ := List.mem_map.1 hz
    have := bounds8 (h3 y hy)
    omega

/-- What a slice's place in the bulk gives. -/
theorem bulk_one (d : DataW H) : 1 ≤ Rows.uptoBulk d := by
  cases d with
  | lit l => cases l <;> simp [Rows.uptoBulk]
  | nil => simp [Rows.uptoBulk]
  | ptr d => simp [Rows.uptoBulk]
  | slice elems spare => simp [Rows.uptoBulk]
  | agg parts => simp [Rows.uptoBulk]
  | iface t d => simp [Rows.uptoBulk]
  | map entries => simp [Rows.uptoBulk]
  | held h => simp [Rows.uptoBulk]
theorem bulk_len : ∀ (l : List (DataW H)), l.length ≤ Rows.uptoBulkAll l
  | [] => by simp
  | x :: r => by have := bulk_one x; have := bulk_len r; simp only [Rows.uptoBulkAll, List.length_cons]; omega
theorem bulk_slice {d : DataW H} {len cap : Nat} (h : (d = .nil ∧ len = 0) ∨ ∃ elems spare, d = .slice elems spare ∧ elems.length = len ∧ elems.length + spare.length = cap) : len + 1 ≤ Rows.uptoBulk d := by
  rcases h with ⟨rfl, rfl⟩ | ⟨elems, spare, rfl, h1, h2⟩
  · exact bulk_one _
  · have := bulk_len elems
    simp only [Rows.uptoBulk]; omega
theorem bulk_mem {d : DataW H} : ∀ {l : List (DataW H)}, d ∈ l → Rows.uptoBulk d ≤ Rows.uptoBulkAll l
  | x :: r, h => by
    simp only [Rows.uptoBulkAll]
    rcases List.mem_cons.1 h with rfl | h
    · omega
    · have := bulk_mem h; omega
theorem bulk_bound {l : List (DataW H)} (hk : Rows.uptoSmall H l = true) {d : DataW H} (h : d ∈ l) : Rows.uptoBulk d ≤ 1048576 := Nat.le_trans (bulk_mem h) (of_decide_eq_true hk)

theorem bulk_string {s : ByteArray} (h : Rows.uptoBulk (DataW.lit (H := H) (.string s.data.toList)) ≤ 1048576) : s.size ≤ 1048576 := by
  simp only [Rows.uptoBulk] at h
  have e : s.data.toList.length = s.size := by rw [Array.length_toList]; rfl
  omega

/-- All arguments read alike behind a call that leaves what lay there. -/
theorem trodAll_below {P : Program} (hl : laidOutB P = true) {W' : World} (hb : Below W.heap.size W W') : ∀ {ts : List TypeId} {vs : List Value} {ds : List (DataW H)} {ps : List MemPlace}, (ts.all fun t => P.readableRec t && decide (t < P.types.size)) = true →
    DataW.TrodAll enc P W 0 (fun _ => true) true ts vs ds ps → DataW.TrodAll enc P W' 0 (fun b => decide (b < W.heap.size)) true ts vs ds ps
  | [], _, _, _, _, h => by
    obtain ⟨rfl, rfl, rfl⟩ := trodAll_nil h
    exact trodAll_mk0
  | t :: ts, _, _, _, ha, h => by
    obtain ⟨v, vs, d, ds, p, q, rfl, rfl, rfl, h0, r0⟩ := trodAll_cons h
    rw [List.all_cons, Bool.and_eq_true, Bool.and_eq_true] at ha
    have lt : ∀ x ∈ p, x.block < W.heap.size := by obtain ⟨m, hm⟩ := h0; exact DataW.trod_lt m _ _ _ hm
    exact trodAll_cons_mk (Below.trod hl ha.1.1 (of_decide_eq_true ha.1.2) h0 hb lt) (trodAll_below hl hb ha.2 r0)
end
end Go.Proofs.YtgdmkcbbomfmdaaGreatDoor
