/-
  Ours: the reference's lists of items, as they read and as a call has made them (after AgRow).
-/
import Derived.Test.YtfdehlfhnlgcjaaDoorTqList
import Derived.Test.YtfdehlfhnlgcjaaDoorTqMove
namespace Go.Proofs.YtfdehlfhnlgcjaaDoor
open Go.RowKit TqM

namespace TqM
def gN (es : List (Ky × Int)) (i : Nat) : Ky × Int := es.getD i (⟨0, 0, 0⟩, 0)
theorem gN_at {es : List (Ky × Int)} {i : Nat} (h : i < es.length) : gN es i = es[i] := by simp [gN, List.getD_eq_getElem?_getD, List.getElem?_eq_getElem h]
theorem take_gN {es : List (Ky × Int)} {i : Nat} (h : i < es.length) : es.take (i + 1) = es.take i ++ [gN es i] := by
  rw [gN_at h, List.take_add_one, List.getElem?_eq_getElem h]; rfl
end TqM
/-- The slice value v reads as the entries es. -/
def RdI (w : World) (v : Value) (es : List (Ky × Int)) : Prop :=
  ∃ ao cap, v = .slice ao es.length cap ∧ es.length ≤ cap ∧ (ao = none → cap = 0) ∧ ∀ i, i < es.length → ∃ g o, ao = some ⟨g, o, none⟩ ∧ g < w.heap.size ∧ w.rangeAt g (o + i * 4) (TQ.tmL (gN es i))
theorem RdI.later {w w' : World} {v : Value} {es : List (Ky × Int)} (h : RdI w v es) (hb : Below w.heap.size w w') : RdI w' v es := by
  obtain ⟨ao, cap, rfl, h1, h2, h3⟩ := h
  refine ⟨ao, cap, rfl, h1, h2, fun i hi => ?_⟩
  obtain ⟨g, o, e, lt, r⟩ := h3 i hi
  exact ⟨g, o, e, Nat.lt_of_lt_of_le lt hb.size, range_later r lt hb⟩
theorem infoI (e : Ky × Int) : (Tryd.prog.info? 77).map (·.size) = some (TQ.tmL e).length := by show _ = some 4; kernel_rfl
theorem oneI (e : Ky × Int) : ∀ v ∈ TQ.tmL e, v.oneCell' = true := fun v hv => by
  simp [TQ.tmL] at hv
  rcases hv with rfl | rfl | rfl | rfl <;> rfl


namespace TqM
def itL (es : List (Ky × Int)) : List Value := es.flatMap TQ.tmL
theorem itL_len : ∀ es : List (Ky × Int), (itL es).length = es.length * 4
  | [] => rfl
  | e :: r => by
    have := itL_len r
    simp only [itL, List.flatMap_cons, List.length_append, List.length_cons] at this ⊢
    rw [show (TQ.tmL e).length = 4 from rfl]; omega
theorem itL_append (es fs : List (Ky × Int)) : itL (es ++ fs) = itL es ++ itL fs := by simp [itL]
theorem itL_one (es : List (Ky × Int)) : ∀ v ∈ itL es, v.oneCell' = true := fun v hv => by
  obtain ⟨e, _, h⟩ := List.mem_flatMap.1 hv
  simp [TQ.tmL] at h
  rcases h with rfl | rfl | rfl | rfl <;> rfl
theorem itL_at : ∀ (es : List (Ky × Int)) (i j : Nat), i < es.length → j < 4 → (itL es)[i * 4 + j]? = (TQ.tmL (gN es i))[j]?
  | e :: r, 0, j, _, hj => by
    rw [Nat.zero_mul, Nat.zero_add]
    show (TQ.tmL e ++ itL r)[j]? = _
    rw [List.getElem?_append_left (by simpa [TQ.tmL] using hj)]; rfl
  | e :: r, i + 1, j, h, hj => by
    have ih := itL_at r i j (by simpa using h) hj
    show (TQ.tmL e ++ itL r)[(i + 1) * 4 + j]? = _
    rw [List.getElem?_append_right (by simp [TQ.tmL]; omega)]
    rw [show (i + 1) * 4 + j - (TQ.tmL e).length = i * 4 + j from by simp [TQ.tmL]; omega, ih]
    rfl
theorem tmL_get (e : Ky × Int) (j : Nat) (v : Value) (h : (TQ.tmL e)[j]? = some v) : j < 4 := (List.getElem?_eq_some_iff.1 h).1
end TqM

/-- A row of entries that lies among blocks from 'base' on. -/
abbrev RowI (base : Nat) (w : World) (v : Value) (es : List (Ky × Int)) : Prop := w.ownsRow base 77 4 v es.length (itL es)
theorem RowI.nil (base : Nat) (w : World) : RowI base w (.slice none 0 0) [] := World.ownsRow_nil _ _ _ _
theorem RowI.later {base : Nat} {w w' : World} {v : Value} {es : List (Ky × Int)} (h : RowI base w v es) (hb : Below w.heap.size w w') : RowI base w' v es := by
  refine World.ownsRow.kept h (row := none) ⟨hb.os, hb.tape, hb.output, hb.size, fun k hk _ => hb.block k hk⟩ ?_
  cases hv : v.ownBlock <;> simp
theorem RowI.kept {base : Nat} {w w' : World} {v : Value} {row : Option Nat} {es : List (Ky × Int)} (h : RowI base w v es) (hb : w.grownBy w' row) (hn : ∀ g, v.ownBlock = some g → row ≠ some g) : RowI base w' v es := by
  refine World.ownsRow.kept h hb ?_
  cases hv : v.ownBlock with
  | none => exact .inl rfl
  | some g => exact .inr fun e => hn g hv e.symm
theorem RowI.mono {base base' : Nat} {w : World} {v : Value} {es : List (Ky × Int)} (h : RowI base w v es) (hb : base' ≤ base) : RowI base' w v es := by
  refine ⟨h.1, ?_⟩
  rcases h.2 with hn | ⟨g, cap, cur, hv, hg, rest⟩
  · exact .inl hn
  · exact .inr ⟨g, cap, cur, hv, Nat.le_trans hb hg, rest⟩
theorem RowI.ge {base : Nat} {w : World} {v : Value} {es : List (Ky × Int)} (h : RowI base w v es) {g : Nat} (hg : v.ownBlock = some g) : base ≤ g := (World.ownsRow.lt h g hg).1
theorem RowI.lt {base : Nat} {w : World} {v : Value} {es : List (Ky × Int)} (h : RowI base w v es) {g : Nat} (hg : v.ownBlock = some g) : g < w.heap.size := (World.ownsRow.lt h g hg).2
theorem RowI.rd {base : Nat} {w : World} {v : Value} {es : List (Ky × Int)} (h : RowI base w v es) : RdI w v es := by
  have hc := fun (g : Nat) (hg : v.ownBlock = some g) => World.ownsRow.cells h hg
  have hlt := fun (g : Nat) (hg : v.ownBlock = some g) => h.lt hg
  rcases h.2 with ⟨hv, h0⟩ | ⟨g, cap, cur, rfl, hb, hg, hn, hm, hcs, htk⟩
  · have e0 : es = [] := List.eq_nil_of_length_eq_zero h0
    subst e0
    exact ⟨none, 0, hv, Nat.le_refl _, fun _ => rfl, fun i hi => by simp at hi⟩
  · refine ⟨some ⟨g, 0, none⟩, cap, rfl, hn, (fun h => by cases h), fun i hi => ⟨g, 0, rfl, hlt g rfl, fun j v hv => ?_⟩⟩
    have hj := tmL_get _ _ _ hv
    have := hc g rfl (i * 4 + j) v (by rw [itL_at es i j hi hj]; exact hv)
    have hadd : (⟨g, 0, none⟩ : Addr).add (i * 4 + j) = ⟨g, i * 4 + j, none⟩ := by unfold Addr.add; split <;> simp_all
    rw [hadd] at this
    rw [Nat.zero_add]
    exact this
theorem infoI3 : (Tryd.prog.info? 77).map (fun i => (i.zero, i.size, i.bytes)) = some (some (.agg #[.int .i64 0, .int .i64 0, .int .i64 0, .int .i64 0]), 4, 32) := by kernel_rfl

theorem wpList_catI {wr : World} {ops : Array Oper} {rest : List Oper} {o : Oper} {a : Act} {Q : Exit → Act → World → Prop} (hgd : o.guard = none) (s x : Operand)
    (ho : o.op = .call { callee := .builtin .append, args := #[s, x], argTypes := #[31, 31] })
    (base : Nat) (v v2 : Value) (es fs : List (Ky × Int)) (hs : a.eval s = v) (hown : RowI base wr v es) (hsz : base ≤ wr.heap.size)
    (hx : a.eval x = v2) (hr : RdI wr v2 fs) (hl : es.length + fs.length ≤ 1000000000000)
    (h : ∀ v' w', RowI base w' v' (es ++ fs) → wr.grownBy w' v.ownBlock → wpList Tryd.prog ops Q rest (a.put o.dst v') w') :
    wpList Tryd.prog ops Q (o :: rest) a wr := by
  obtain ⟨i, hi, hz, hsize, hby⟩ := info_parts infoI3
  have ht := Tryd.underlying31
  obtain ⟨ao, cap, rfl, h1, h2, h3⟩ := hr
  have hml : es.length + fs.length ≤ maxLen := by unfold maxLen; omega
  have fin : ∀ v' w', w'.ownsRow base 77 4 v' (es.length + fs.length) (itL es ++ itL fs) → wr.grownBy w' v.ownBlock → wpList Tryd.prog ops Q rest (a.put o.dst v') w' := fun v' w' r g => by
    refine h v' w' ?_ g
    unfold RowI
    rw [List.length_append, itL_append]
    exact r
  by_cases hu : fs.length = 0
  · obtain rfl : fs = [] := List.eq_nil_of_length_eq_zero hu
    cases ao with
    | none =>
      obtain rfl := h2 rfl
      have hr : ∀ ty, (Builtin.append_ #[31, 31] ty #[v, .slice none 0 0]).run Tryd.prog wr = .ok v wr := fun ty => run_append_owned_none (P := Tryd.prog) wr base 31 ty 77 i 4 ht hi v es.length (itL es) hown
      refine wpList_plain hgd fun K hK => ?_
      unfold Oper.wp execOp
      simp only [ho, resolve, invoke, builtin, Sem.run_bind, Sem.run_pure, Result.andThen_ok, List.map_toArray, List.map_cons, List.map_nil, hs, hx, List.length_nil, hr]
      exact hK _ _ (h _ _ (by simpa using hown) (grownBy_refl _ _))
    | some ad =>
      refine wpList_append_own _ hgd s x 31 ho base 77 i _ 4 32 ht hi hz hsize hby rfl (by decide) v es.length (itL es) hs hown ad 0 cap [] hx (by simp) (by simp) (by simp) (by simpa using hml) (by simp at hl ⊢; omega) hsz ?_
      intro v' w' hown' hgrow _
      exact fin v' w' (by simpa [itL] using hown') hgrow
  · obtain ⟨g, off, rfl, lt, _⟩ := h3 0 (by omega)
    refine wpList_append_own _ hgd s x 31 ho base 77 i _ 4 32 ht hi hz hsize hby rfl (by decide) v es.length (itL es) hs hown ⟨g, off, none⟩ fs.length cap (itL fs) hx (itL_len fs) ?_ (itL_one fs) hml (by omega) hsz ?_
    · intro j u hj
      have hjl : j < fs.length * 4 := by have := (List.getElem?_eq_some_iff.1 hj).1; rwa [itL_len] at this
      obtain ⟨g', o', e1, _, hc⟩ := h3 (j / 4) (by omega)
      cases e1
      have hadd : (⟨g, off, none⟩ : Addr).add j = ⟨g, off + j, none⟩ := by unfold Addr.add; split <;> simp_all
      have hd : j = j / 4 * 4 + j % 4 := by omega
      have ha := itL_at fs (j / 4) (j % 4) (by omega) (by omega)
      rw [← hd, hj] at ha
      have := hc (j % 4) u ha.symm
      rw [show off + j / 4 * 4 + j % 4 = off + j from by omega] at this
      rw [hadd]; exact this
    · intro v' w' hown' hgrow _
      exact fin v' w' hown' hgrow

/-- One entry in a new block. -/
theorem RdI.one (w : World) (e : Ky × Int) : RdI (w.alloc (.cells (TQ.tmL e).toArray 77)) (.slice (some ⟨w.heap.size, 0, none⟩) 1 1) [e] := by
  refine ⟨_, _, rfl, Nat.le_refl _, (fun h => by cases h), fun i hi => ?_⟩
  obtain rfl : i = 0 := by simpa using hi
  exact ⟨_, _, rfl, by simp, (Blk.new 77 (TQ.tmL e) w).all⟩
/-- A cut of what reads as entries. -/
theorem RdI.take {w : World} {a : Option Addr} {n c : Nat} {es : List (Ky × Int)} (h : RdI w (.slice a n c) es) {k : Nat} (hk : k ≤ n) : RdI w (.slice a k c) (es.take k) := by
  obtain ⟨ao, cap, e, h1, h2, h3⟩ := h
  injection e with e1 e2 e3
  subst e1 e2 e3
  refine ⟨_, _, by rw [List.length_take, Nat.min_eq_left hk], by rw [List.length_take]; omega, h2, fun i hi => ?_⟩
  rw [List.length_take] at hi
  obtain ⟨g, o, e, lt, r⟩ := h3 i (by omega)
  refine ⟨g, o, e, lt, ?_⟩
  rw [show gN (es.take k) i = gN es i from by simp only [gN, List.getD_eq_getElem?_getD, List.getElem?_take]; rw [if_pos (by omega)]]
  exact r
theorem RdI.drop {w : World} {g o n c : Nat} {es : List (Ky × Int)} (h : RdI w (.slice (some ⟨g, o, none⟩) n c) es) {k : Nat} (hk : k ≤ n) : RdI w (.slice (some ⟨g, o + k * 4, none⟩) (n - k) (c - k)) (es.drop k) := by
  obtain ⟨ao, cap, e, h1, h2, h3⟩ := h
  injection e with e1 e2 e3
  subst e1 e2 e3
  refine ⟨_, _, by rw [List.length_drop], by rw [List.length_drop]; omega, (fun h => by cases h), fun i hi => ?_⟩
  rw [List.length_drop] at hi
  obtain ⟨g', o', e, lt, r⟩ := h3 (k + i) (by omega)
  cases e
  refine ⟨g, o + k * 4, rfl, lt, ?_⟩
  rw [show gN (es.drop k) i = gN es (k + i) from by simp only [gN, List.getD_eq_getElem?_getD, List.getElem?_drop], show o + k * 4 + i * 4 = o + (k + i) * 4 from by omega]
  exact r
end Go.Proofs.YtfdehlfhnlgcjaaDoor
