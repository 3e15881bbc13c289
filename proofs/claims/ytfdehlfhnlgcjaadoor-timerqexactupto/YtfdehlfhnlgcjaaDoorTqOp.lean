/-
  Ours: scripts of operations, as they read and as a call has made them (by mkop.py, after TqIt).
-/
import Derived.Test.YtfdehlfhnlgcjaaDoorTqStep
namespace Go.Proofs.YtfdehlfhnlgcjaaDoor
open Go.RowKit TqM

/-- An operation of the script. -/
structure OpT where
  kd : Int
  ot : Bool
  k : Ky
  n : Int
abbrev opT (o : OpT) : List Value := opL o.kd o.ot o.k o.n
namespace TqM
def oN (es : List (OpT)) (i : Nat) : OpT := es.getD i ⟨0, false, ⟨0, 0, 0⟩, 0⟩
theorem oN_at {es : List (OpT)} {i : Nat} (h : i < es.length) : oN es i = es[i] := by simp [oN, List.getD_eq_getElem?_getD, List.getElem?_eq_getElem h]
theorem take_oN {es : List (OpT)} {i : Nat} (h : i < es.length) : es.take (i + 1) = es.take i ++ [oN es i] := by
  rw [oN_at h, List.take_add_one, List.getElem?_eq_getElem h]; rfl
end TqM
/-- The slice value v reads as the entries es. -/
def RdO (w : World) (v : Value) (es : List (OpT)) : Prop :=
  ∃ ao cap, v = .slice ao es.length cap ∧ es.length ≤ cap ∧ (ao = none → cap = 0) ∧ ∀ i, i < es.length → ∃ g o, ao = some ⟨g, o, none⟩ ∧ g < w.heap.size ∧ w.rangeAt g (o + i * 6) (opT (oN es i))
theorem RdO.later {w w' : World} {v : Value} {es : List (OpT)} (h : RdO w v es) (hb : Below w.heap.size w w') : RdO w' v es := by
  obtain ⟨ao, cap, rfl, h1, h2, h3⟩ := h
  refine ⟨ao, cap, rfl, h1, h2, fun i hi => ?_⟩
  obtain ⟨g, o, e, lt, r⟩ := h3 i hi
  exact ⟨g, o, e, Nat.lt_of_lt_of_le lt hb.size, range_later r lt hb⟩
theorem infoO (e : OpT) : (Tryd.prog.info? 26).map (·.size) = some (opT e).length := by show _ = some 6; kernel_rfl
theorem oneO (e : OpT) : ∀ v ∈ opT e, v.oneCell' = true := fun v hv => by
  simp [opT, opL] at hv
  rcases hv with rfl | rfl | rfl | rfl | rfl | rfl <;> rfl


namespace TqM
def opsL (es : List (OpT)) : List Value := es.flatMap opT
theorem opsL_len : ∀ es : List (OpT), (opsL es).length = es.length * 6
  | [] => rfl
  | e :: r => by
    have := opsL_len r
    simp only [opsL, List.flatMap_cons, List.length_append, List.length_cons] at this ⊢
    rw [show (opT e).length = 6 from rfl]; omega
theorem opsL_append (es fs : List (OpT)) : opsL (es ++ fs) = opsL es ++ opsL fs := by simp [opsL]
theorem opsL_one (es : List (OpT)) : ∀ v ∈ opsL es, v.oneCell' = true := fun v hv => by
  obtain ⟨e, _, h⟩ := List.mem_flatMap.1 hv
  simp [opT, opL] at h
  rcases h with rfl | rfl | rfl | rfl | rfl | rfl <;> rfl
theorem opsL_at : ∀ (es : List (OpT)) (i j : Nat), i < es.length → j < 6 → (opsL es)[i * 6 + j]? = (opT (oN es i))[j]?
  | e :: r, 0, j, _, hj => by
    rw [Nat.zero_mul, Nat.zero_add]
    show (opT e ++ opsL r)[j]? = _
    rw [List.getElem?_append_left (by simpa [opT, opL] using hj)]; rfl
  | e :: r, i + 1, j, h, hj => by
    have ih := opsL_at r i j (by simpa using h) hj
    show (opT e ++ opsL r)[(i + 1) * 6 + j]? = _
    rw [List.getElem?_append_right (by simp [opT, opL]; omega)]
    rw [show (i + 1) * 6 + j - (opT e).length = i * 6 + j from by simp [opT, opL]; omega, ih]
    rfl
theorem opT_get (e : OpT) (j : Nat) (v : Value) (h : (opT e)[j]? = some v) : j < 6 := (List.getElem?_eq_some_iff.1 h).1
end TqM

/-- A row of entries that lies among blocks from 'base' on. -/
abbrev RowO (base : Nat) (w : World) (v : Value) (es : List (OpT)) : Prop := w.ownsRow base 26 6 v es.length (opsL es)
theorem RowO.nil (base : Nat) (w : World) : RowO base w (.slice none 0 0) [] := World.ownsRow_nil _ _ _ _
theorem RowO.later {base : Nat} {w w' : World} {v : Value} {es : List (OpT)} (h : RowO base w v es) (hb : Below w.heap.size w w') : RowO base w' v es := by
  refine World.ownsRow.kept h (row := none) ⟨hb.os, hb.tape, hb.output, hb.size, fun k hk _ => hb.block k hk⟩ ?_
  cases hv : v.ownBlock <;> simp
theorem RowO.kept {base : Nat} {w w' : World} {v : Value} {row : Option Nat} {es : List (OpT)} (h : RowO base w v es) (hb : w.grownBy w' row) (hn : ∀ g, v.ownBlock = some g → row ≠ some g) : RowO base w' v es := by
  refine World.ownsRow.kept h hb ?_
  cases hv : v.ownBlock with
  | none => exact .inl rfl
  | some g => exact .inr fun e => hn g hv e.symm
theorem RowO.mono {base base' : Nat} {w : World} {v : Value} {es : List (OpT)} (h : RowO base w v es) (hb : base' ≤ base) : RowO base' w v es := by
  refine ⟨h.1, ?_⟩
  rcases h.2 with hn | ⟨g, cap, cur, hv, hg, rest⟩
  · exact .inl hn
  · exact .inr ⟨g, cap, cur, hv, Nat.le_trans hb hg, rest⟩
theorem RowO.ge {base : Nat} {w : World} {v : Value} {es : List (OpT)} (h : RowO base w v es) {g : Nat} (hg : v.ownBlock = some g) : base ≤ g := (World.ownsRow.lt h g hg).1
theorem RowO.lt {base : Nat} {w : World} {v : Value} {es : List (OpT)} (h : RowO base w v es) {g : Nat} (hg : v.ownBlock = some g) : g < w.heap.size := (World.ownsRow.lt h g hg).2
theorem RowO.rd {base : Nat} {w : World} {v : Value} {es : List (OpT)} (h : RowO base w v es) : RdO w v es := by
  have hc := fun (g : Nat) (hg : v.ownBlock = some g) => World.ownsRow.cells h hg
  have hlt := fun (g : Nat) (hg : v.ownBlock = some g) => h.lt hg
  rcases h.2 with ⟨hv, h0⟩ | ⟨g, cap, cur, rfl, hb, hg, hn, hm, hcs, htk⟩
  · have e0 : es = [] := List.eq_nil_of_length_eq_zero h0
    subst e0
    exact ⟨none, 0, hv, Nat.le_refl _, fun _ => rfl, fun i hi => by simp at hi⟩
  · refine ⟨some ⟨g, 0, none⟩, cap, rfl, hn, (fun h => by cases h), fun i hi => ⟨g, 0, rfl, hlt g rfl, fun j v hv => ?_⟩⟩
    have hj := opT_get _ _ _ hv
    have := hc g rfl (i * 6 + j) v (by rw [opsL_at es i j hi hj]; exact hv)
    have hadd : (⟨g, 0, none⟩ : Addr).add (i * 6 + j) = ⟨g, i * 6 + j, none⟩ := by unfold Addr.add; split <;> simp_all
    rw [hadd] at this
    rw [Nat.zero_add]
    exact this
theorem infoO3 : (Tryd.prog.info? 26).map (fun i => (i.zero, i.size, i.bytes)) = some (some (.agg #[.int .i64 0, .bool false, .int .i64 0, .int .i64 0, .int .i64 0, .int .i64 0]), 6, 48) := by kernel_rfl

theorem wpList_catO {wr : World} {ops : Array Oper} {rest : List Oper} {o : Oper} {a : Act} {Q : Exit → Act → World → Prop} (hgd : o.guard = none) (s x : Operand)
    (ho : o.op = .call { callee := .builtin .append, args := #[s, x], argTypes := #[22, 22] })
    (base : Nat) (v v2 : Value) (es fs : List (OpT)) (hs : a.eval s = v) (hown : RowO base wr v es) (hsz : base ≤ wr.heap.size)
    (hx : a.eval x = v2) (hr : RdO wr v2 fs) (hl : es.length + fs.length ≤ 1000000000000)
    (h : ∀ v' w', RowO base w' v' (es ++ fs) → wr.grownBy w' v.ownBlock → wpList Tryd.prog ops Q rest (a.put o.dst v') w') :
    wpList Tryd.prog ops Q (o :: rest) a wr := by
  obtain ⟨i, hi, hz, hsize, hby⟩ := info_parts infoO3
  have ht := Tryd.underlying22
  obtain ⟨ao, cap, rfl, h1, h2, h3⟩ := hr
  have hml : es.length + fs.length ≤ maxLen := by unfold maxLen; omega
  have fin : ∀ v' w', w'.ownsRow base 26 6 v' (es.length + fs.length) (opsL es ++ opsL fs) → wr.grownBy w' v.ownBlock → wpList Tryd.prog ops Q rest (a.put o.dst v') w' := fun v' w' r g => by
    refine h v' w' ?_ g
    unfold RowO
    rw [List.length_append, opsL_append]
    exact r
  by_cases hu : fs.length = 0
  · obtain rfl : fs = [] := List.eq_nil_of_length_eq_zero hu
    cases ao with
    | none =>
      obtain rfl := h2 rfl
      have hr : ∀ ty, (Builtin.append_ #[22, 22] ty #[v, .slice none 0 0]).run Tryd.prog wr = .ok v wr := fun ty => run_append_owned_none (P := Tryd.prog) wr base 22 ty 26 i 6 ht hi v es.length (opsL es) hown
      refine wpList_plain hgd fun K hK => ?_
      unfold Oper.wp execOp
      simp only [ho, resolve, invoke, builtin, Sem.run_bind, Sem.run_pure, Result.andThen_ok, List.map_toArray, List.map_cons, List.map_nil, hs, hx, List.length_nil, hr]
      exact hK _ _ (h _ _ (by simpa using hown) (grownBy_refl _ _))
    | some ad =>
      refine wpList_append_own _ hgd s x 22 ho base 26 i _ 6 48 ht hi hz hsize hby rfl (by decide) v es.length (opsL es) hs hown ad 0 cap [] hx (by simp) (by simp) (by simp) (by simpa using hml) (by simp at hl ⊢; omega) hsz ?_
      intro v' w' hown' hgrow _
      exact fin v' w' (by simpa [opsL] using hown') hgrow
  · obtain ⟨g, off, rfl, lt, _⟩ := h3 0 (by omega)
    refine wpList_append_own _ hgd s x 22 ho base 26 i _ 6 48 ht hi hz hsize hby rfl (by decide) v es.length (opsL es) hs hown ⟨g, off, none⟩ fs.length cap (opsL fs) hx (opsL_len fs) ?_ (opsL_one fs) hml (by omega) hsz ?_
    · intro j u hj
      have hjl : j < fs.length * 6 := by have := (List.getElem?_eq_some_iff.1 hj).1; rwa [opsL_len] at this
      obtain ⟨g', o', e1, _, hc⟩ := h3 (j / 6) (by omega)
      cases e1
      have hadd : (⟨g, off, none⟩ : Addr).add j = ⟨g, off + j, none⟩ := by unfold Addr.add; split <;> simp_all
      have hd : j = j / 6 * 6 + j % 6 := by omega
      have ha := opsL_at fs (j / 6) (j % 6) (by omega) (by omega)
      rw [← hd, hj] at ha
      have := hc (j % 6) u ha.symm
      rw [show off + j / 6 * 6 + j % 6 = off + j from by omega] at this
      rw [hadd]; exact this
    · intro v' w' hown' hgrow _
      exact fin v' w' hown' hgrow

/-- One entry in a new block. -/
theorem RdO.one (w : World) (e : OpT) : RdO (w.alloc (.cells (opT e).toArray 26)) (.slice (some ⟨w.heap.size, 0, none⟩) 1 1) [e] := by
  refine ⟨_, _, rfl, Nat.le_refl _, (fun h => by cases h), fun i hi => ?_⟩
  obtain rfl : i = 0 := by simpa using hi
  exact ⟨_, _, rfl, by simp, (Blk.new 26 (opT e) w).all⟩
end Go.Proofs.YtfdehlfhnlgcjaaDoor
