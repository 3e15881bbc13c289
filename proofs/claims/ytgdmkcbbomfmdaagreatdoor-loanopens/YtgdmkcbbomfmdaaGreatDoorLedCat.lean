/-
  Ours: rows of entries that a call has made.
-/
import Derived.Test.YtgdmkcbbomfmdaaGreatDoorLedEnt
namespace Go.Proofs.YtgdmkcbbomfmdaaGreatDoor
open Go.RowKit LedM

namespace LedM
def enL (es : List Ent) : List Value := es.flatMap entL
theorem enL_len : ∀ es : List Ent, (enL es).length = es.length * 3
  | [] => rfl
  | e :: r => by
    have := enL_len r
    simp only [enL, List.flatMap_cons, List.length_append, List.length_cons] at this ⊢
    rw [show (entL e).length = 3 from rfl]; omega
theorem enL_append (es fs : List Ent) : enL (es ++ fs) = enL es ++ enL fs := by simp [enL]
theorem enL_one (es : List Ent) : ∀ v ∈ enL es, v.oneCell' = true := fun v hv => by
  obtain ⟨e, _, h⟩ := List.mem_flatMap.1 hv
  simp [entL] at h
  rcases h with rfl | rfl | rfl <;> rfl
theorem enL_at : ∀ (es : List Ent) (i j : Nat), i < es.length → j < 3 → (enL es)[i * 3 + j]? = (entL (eN es i))[j]?
  | e :: r, 0, j, _, hj => by
    rw [Nat.zero_mul, Nat.zero_add]
    show (entL e ++ enL r)[j]? = _
    rw [List.getElem?_append_left (by simpa [entL] using hj)]; rfl
  | e :: r, i + 1, j, h, hj => by
    have ih := enL_at r i j (by simpa using h) hj
    show (entL e ++ enL r)[(i + 1) * 3 + j]? = _
    rw [List.getElem?_append_right (by simp [entL]; omega)]
    rw [show (i + 1) * 3 + j - (entL e).length = i * 3 + j from by simp [entL]; omega, ih]
    rfl
theorem entL_get (e : Ent) (j : Nat) (v : Value) (h : (entL e)[j]? = some v) : j < 3 := (List.getElem?_eq_some_iff.1 h).1
end LedM

/-- A row of entries that lies among blocks from 'base' on. -/
abbrev RowE (base : Nat) (w : World) (v : Value) (es : List Ent) : Prop := w.ownsRow base 79 3 v es.length (enL es)
theorem RowE.nil (base : Nat) (w : World) : RowE base w (.slice none 0 0) [] := World.ownsRow_nil _ _ _ _
theorem RowE.later {base : Nat} {w w' : World} {v : Value} {es : List Ent} (h : RowE base w v es) (hb : Below w.heap.size w w') : RowE base w' v es := by
  refine World.ownsRow.kept h (row := none) ⟨hb.os, hb.tape, hb.output, hb.size, fun k hk _ => hb.block k hk⟩ ?_
  cases hv : v.ownBlock <;> simp
theorem RowE.kept {base : Nat} {w w' : World} {v : Value} {row : Option Nat} {es : List Ent} (h : RowE base w v es) (hb : w.grownBy w' row) (hn : ∀ g, v.ownBlock = some g → row ≠ some g) : RowE base w' v es := by
  refine World.ownsRow.kept h hb ?_
  cases hv : v.ownBlock with
  | none => exact .inl rfl
  | some g => exact .inr fun e => hn g hv e.symm
theorem RowE.mono {base base' : Nat} {w : World} {v : Value} {es : List Ent} (h : RowE base w v es) (hb : base' ≤ base) : RowE base' w v es := by
  refine ⟨h.1, ?_⟩
  rcases h.2 with hn | ⟨g, cap, cur, hv, hg, rest⟩
  · exact .inl hn
  · exact .inr ⟨g, cap, cur, hv, Nat.le_trans hb hg, rest⟩
theorem RowE.ge {base : Nat} {w : World} {v : Value} {es : List Ent} (h : RowE base w v es) {g : Nat} (hg : v.ownBlock = some g) : base ≤ g := (World.ownsRow.lt h g hg).1
theorem RowE.lt {base : Nat} {w : World} {v : Value} {es : List Ent} (h : RowE base w v es) {g : Nat} (hg : v.ownBlock = some g) : g < w.heap.size := (World.ownsRow.lt h g hg).2
theorem RowE.rd {base : Nat} {w : World} {v : Value} {es : List Ent} (h : RowE base w v es) : RdE w v es := by
  have hc := fun (g : Nat) (hg : v.ownBlock = some g) => World.ownsRow.cells h hg
  have hlt := fun (g : Nat) (hg : v.ownBlock = some g) => h.lt hg
  rcases h.2 with ⟨hv, h0⟩ | ⟨g, cap, cur, rfl, hb, hg, hn, hm, hcs, htk⟩
  · have e0 : es = [] := List.eq_nil_of_length_eq_zero h0
    subst e0
    exact ⟨none, 0, hv, Nat.le_refl _, fun _ => rfl, fun i hi => by simp at hi⟩
  · refine ⟨some ⟨g, 0, none⟩, cap, rfl, hn, (fun h => by cases h), fun i hi => ⟨g, 0, rfl, hlt g rfl, fun j v hv => ?_⟩⟩
    have hj := entL_get _ _ _ hv
    have := hc g rfl (i * 3 + j) v (by rw [enL_at es i j hi hj]; exact hv)
    have hadd : (⟨g, 0, none⟩ : Addr).add (i * 3 + j) = ⟨g, i * 3 + j, none⟩ := by unfold Addr.add; split <;> simp_all
    rw [hadd] at this
    rw [Nat.zero_add]
    exact this
theorem infoE3 : (Tryz.prog.info? 79).map (fun i => (i.zero, i.size, i.bytes)) = some (some (.agg #[.int .i64 0, .int .i64 0, .int .i64 0]), 3, 24) := by kernel_rfl

theorem wpList_catE {wr : World} {ops : Array Oper} {rest : List Oper} {o : Oper} {a : Act} {Q : Exit → Act → World → Prop} (hgd : o.guard = none) (s x : Operand)
    (ho : o.op = .call { callee := .builtin .append, args := #[s, x], argTypes := #[62, 62] })
    (base : Nat) (v v2 : Value) (es fs : List Ent) (hs : a.eval s = v) (hown : RowE base wr v es) (hsz : base ≤ wr.heap.size)
    (hx : a.eval x = v2) (hr : RdE wr v2 fs) (hl : es.length + fs.length ≤ 1000000000000)
    (h : ∀ v' w', RowE base w' v' (es ++ fs) → wr.grownBy w' v.ownBlock → wpList Tryz.prog ops Q rest (a.put o.dst v') w') :
    wpList Tryz.prog ops Q (o :: rest) a wr := by
  obtain ⟨i, hi, hz, hsize, hby⟩ := info_parts infoE3
  have ht := Tryz.underlying62
  obtain ⟨ao, cap, rfl, h1, h2, h3⟩ := hr
  have hml : es.length + fs.length ≤ maxLen := by unfold maxLen; omega
  have fin : ∀ v' w', w'.ownsRow base 79 3 v' (es.length + fs.length) (enL es ++ enL fs) → wr.grownBy w' v.ownBlock → wpList Tryz.prog ops Q rest (a.put o.dst v') w' := fun v' w' r g => by
    refine h v' w' ?_ g
    unfold RowE
    rw [List.length_append, enL_append]
    exact r
  by_cases hu : fs.length = 0
  · obtain rfl : fs = [] := List.eq_nil_of_length_eq_zero hu
    cases ao with
    | none =>
      obtain rfl := h2 rfl
      have hr : ∀ ty, (Builtin.append_ #[62, 62] ty #[v, .slice none 0 0]).run Tryz.prog wr = .ok v wr := fun ty => run_append_owned_none (P := Tryz.prog) wr base 62 ty 79 i 3 ht hi v es.length (enL es) hown
      refine wpList_plain hgd fun K hK => ?_
      unfold Oper.wp execOp
      simp only [ho, resolve, invoke, builtin, Sem.run_bind, Sem.run_pure, Result.andThen_ok, List.map_toArray, List.map_cons, List.map_nil, hs, hx, List.length_nil, hr]
      exact hK _ _ (h _ _ (by simpa using hown) (grownBy_refl _ _))
    | some ad =>
      refine wpList_append_own _ hgd s x 62 ho base 79 i _ 3 24 ht hi hz hsize hby rfl (by decide) v es.length (enL es) hs hown ad 0 cap [] hx (by simp) (by simp) (by simp) (by simpa using hml) (by simp at hl ⊢; omega) hsz ?_
      intro v' w' hown' hgrow _
      exact fin v' w' (by simpa [enL] using hown') hgrow
  · obtain ⟨g, off, rfl, lt, _⟩ := h3 0 (by omega)
    refine wpList_append_own _ hgd s x 62 ho base 79 i _ 3 24 ht hi hz hsize hby rfl (by decide) v es.length (enL es) hs hown ⟨g, off, none⟩ fs.length cap (enL fs) hx (enL_len fs) ?_ (enL_one fs) hml (by omega) hsz ?_
    · intro j u hj
      have hjl : j < fs.length * 3 := by have := (List.getElem?_eq_some_iff.1 hj).1; rwa [enL_len] at this
      obtain ⟨g', o', e1, _, hc⟩ := h3 (j / 3) (by omega)
      cases e1
      have hadd : (⟨g, off, none⟩ : Addr).add j = ⟨g, off + j, none⟩ := by unfold Addr.add; split <;> simp_all
      have hd : j = j / 3 * 3 + j % 3 := by omega
      have ha := enL_at fs (j / 3) (j % 3) (by omega) (by omega)
      rw [← hd, hj] at ha
      have := hc (j % 3) u ha.symm
      rw [show off + j / 3 * 3 + j % 3 = off + j from by omega] at this
      rw [hadd]; exact this
    · intro v' w' hown' hgrow _
      exact fin v' w' hown' hgrow

/-- One entry in a new block. -/
theorem RdE.one (w : World) (e : Ent) : RdE (w.alloc (.cells (entL e).toArray 79)) (.slice (some ⟨w.heap.size, 0, none⟩) 1 1) [e] := by
  refine ⟨_, _, rfl, Nat.le_refl _, (fun h => by cases h), fun i hi => ?_⟩
  obtain rfl : i = 0 := by simpa using hi
  exact ⟨_, _, rfl, by simp, (Blk.new 79 (entL e) w).all⟩
/-- A cut of what reads as entries. -/
theorem RdE.take {w : World} {a : Option Addr} {n c : Nat} {es : List Ent} (h : RdE w (.slice a n c) es) {k : Nat} (hk : k ≤ n) : RdE w (.slice a k c) (es.take k) := by
  obtain ⟨ao, cap, e, h1, h2, h3⟩ := h
  injection e with e1 e2 e3
  subst e1 e2 e3
  refine ⟨_, _, by rw [List.length_take, Nat.min_eq_left hk], by rw [List.length_take]; omega, h2, fun i hi => ?_⟩
  rw [List.length_take] at hi
  obtain ⟨g, o, e, lt, r⟩ := h3 i (by omega)
  refine ⟨g, o, e, lt, ?_⟩
  rw [show eN (es.take k) i = eN es i from by simp only [eN, List.getD_eq_getElem?_getD, List.getElem?_take]; rw [if_pos (by omega)]]
  exact r
theorem RdE.drop {w : World} {g o n c : Nat} {es : List Ent} (h : RdE w (.slice (some ⟨g, o, none⟩) n c) es) {k : Nat} (hk : k ≤ n) : RdE w (.slice (some ⟨g, o + k * 3, none⟩) (n - k) (c - k)) (es.drop k) := by
  obtain ⟨ao, cap, e, h1, h2, h3⟩ := h
  injection e with e1 e2 e3
  subst e1 e2 e3
  refine ⟨_, _, by rw [List.length_drop], by rw [List.length_drop]; omega, (fun h => by cases h), fun i hi => ?_⟩
  rw [List.length_drop] at hi
  obtain ⟨g', o', e, lt, r⟩ := h3 (k + i) (by omega)
  cases e
  refine ⟨g, o + k * 3, rfl, lt, ?_⟩
  rw [show eN (es.drop k) i = eN es (k + i) from by simp only [eN, List.getD_eq_getElem?_getD, List.getElem?_drop], show o + k * 3 + i * 3 = o + (k + i) * 3 from by omega]
  exact r
end Go.Proofs.YtgdmkcbbomfmdaaGreatDoor
