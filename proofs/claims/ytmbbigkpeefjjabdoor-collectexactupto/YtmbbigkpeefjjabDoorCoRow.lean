/-
  Ours: rows of events that a call has made (after AgRow).
-/
import Derived.Test.YtmbbigkpeefjjabDoorCoOpn
namespace Go.Proofs.YtmbbigkpeefjjabDoor
open Go.RowKit LedM PolM CoM

namespace CoM
def evsL (es : List Ev) : List Value := es.flatMap evL
theorem evsL_len : ∀ es : List Ev, (evsL es).length = es.length * 4
  | [] => rfl
  | e :: r => by
    have := evsL_len r
    simp only [evsL, List.flatMap_cons, List.length_append, List.length_cons] at this ⊢
    rw [show (evL e).length = 4 from rfl]; omega
theorem evsL_append (es fs : List Ev) : evsL (es ++ fs) = evsL es ++ evsL fs := by simp [evsL]
theorem evsL_one (es : List Ev) : ∀ v ∈ evsL es, v.oneCell' = true := fun v hv => by
  obtain ⟨e, _, h⟩ := List.mem_flatMap.1 hv
  simp [evL] at h
  rcases h with rfl | rfl | rfl | rfl <;> rfl
theorem evsL_at : ∀ (es : List Ev) (i j : Nat), i < es.length → j < 4 → (evsL es)[i * 4 + j]? = (evL (eN es i))[j]?
  | e :: r, 0, j, _, hj => by
    rw [Nat.zero_mul, Nat.zero_add]
    show (evL e ++ evsL r)[j]? = _
    rw [List.getElem?_append_left (by simpa [evL] using hj)]; rfl
  | e :: r, i + 1, j, h, hj => by
    have ih := evsL_at r i j (by simpa using h) hj
    show (evL e ++ evsL r)[(i + 1) * 4 + j]? = _
    rw [List.getElem?_append_right (by simp [evL]; omega)]
    rw [show (i + 1) * 4 + j - (evL e).length = i * 4 + j from by simp [evL]; omega, ih]
    rfl
theorem evL_get (e : Ev) (j : Nat) (v : Value) (h : (evL e)[j]? = some v) : j < 4 := (List.getElem?_eq_some_iff.1 h).1
end CoM

/-- A row of entries that lies among blocks from 'base' on. -/
abbrev RowE (base : Nat) (w : World) (v : Value) (es : List Ev) : Prop := w.ownsRow base 37 4 v es.length (evsL es)
theorem RowE.nil (base : Nat) (w : World) : RowE base w (.slice none 0 0) [] := World.ownsRow_nil _ _ _ _
theorem RowE.later {base : Nat} {w w' : World} {v : Value} {es : List Ev} (h : RowE base w v es) (hb : Below w.heap.size w w') : RowE base w' v es := by
  refine World.ownsRow.kept h (row := none) ⟨hb.os, hb.tape, hb.output, hb.size, fun k hk _ => hb.block k hk⟩ ?_
  cases hv : v.ownBlock <;> simp
theorem RowE.kept {base : Nat} {w w' : World} {v : Value} {row : Option Nat} {es : List Ev} (h : RowE base w v es) (hb : w.grownBy w' row) (hn : ∀ g, v.ownBlock = some g → row ≠ some g) : RowE base w' v es := by
  refine World.ownsRow.kept h hb ?_
  cases hv : v.ownBlock with
  | none => exact .inl rfl
  | some g => exact .inr fun e => hn g hv e.symm
theorem RowE.mono {base base' : Nat} {w : World} {v : Value} {es : List Ev} (h : RowE base w v es) (hb : base' ≤ base) : RowE base' w v es := by
  refine ⟨h.1, ?_⟩
  rcases h.2 with hn | ⟨g, cap, cur, hv, hg, rest⟩
  · exact .inl hn
  · exact .inr ⟨g, cap, cur, hv, Nat.le_trans hb hg, rest⟩
theorem RowE.ge {base : Nat} {w : World} {v : Value} {es : List Ev} (h : RowE base w v es) {g : Nat} (hg : v.ownBlock = some g) : base ≤ g := (World.ownsRow.lt h g hg).1
theorem RowE.lt {base : Nat} {w : World} {v : Value} {es : List Ev} (h : RowE base w v es) {g : Nat} (hg : v.ownBlock = some g) : g < w.heap.size := (World.ownsRow.lt h g hg).2
theorem RowE.rd {base : Nat} {w : World} {v : Value} {es : List Ev} (h : RowE base w v es) : RdV w v es := by
  have hc := fun (g : Nat) (hg : v.ownBlock = some g) => World.ownsRow.cells h hg
  have hlt := fun (g : Nat) (hg : v.ownBlock = some g) => h.lt hg
  rcases h.2 with ⟨hv, h0⟩ | ⟨g, cap, cur, rfl, hb, hg, hn, hm, hcs, htk⟩
  · have e0 : es = [] := List.eq_nil_of_length_eq_zero h0
    subst e0
    exact ⟨none, 0, hv, Nat.le_refl _, fun _ => rfl, fun i hi => by simp at hi⟩
  · refine ⟨some ⟨g, 0, none⟩, cap, rfl, hn, (fun h => by cases h), fun i hi => ⟨g, 0, rfl, hlt g rfl, fun j v hv => ?_⟩⟩
    have hj := evL_get _ _ _ hv
    have := hc g rfl (i * 4 + j) v (by rw [evsL_at es i j hi hj]; exact hv)
    have hadd : (⟨g, 0, none⟩ : Addr).add (i * 4 + j) = ⟨g, i * 4 + j, none⟩ := by unfold Addr.add; split <;> simp_all
    rw [hadd] at this
    rw [Nat.zero_add]
    exact this
theorem infoE3 : (Tryd.prog.info? 37).map (fun i => (i.zero, i.size, i.bytes)) = some (some (.agg #[.int .i64 0, .int .i64 0, .int .i64 0, .int .i64 0]), 4, 32) := by kernel_rfl

theorem wpList_catE {wr : World} {ops : Array Oper} {rest : List Oper} {o : Oper} {a : Act} {Q : Exit → Act → World → Prop} (hgd : o.guard = none) (s x : Operand)
    (ho : o.op = .call { callee := .builtin .append, args := #[s, x], argTypes := #[49, 49] })
    (base : Nat) (v v2 : Value) (es fs : List Ev) (hs : a.eval s = v) (hown : RowE base wr v es) (hsz : base ≤ wr.heap.size)
    (hx : a.eval x = v2) (hr : RdV wr v2 fs) (hl : (es.length + fs.length) * 32 ≤ 140737488355328)
    (h : ∀ v' w', RowE base w' v' (es ++ fs) → wr.grownBy w' v.ownBlock → wpList Tryd.prog ops Q rest (a.put o.dst v') w') :
    wpList Tryd.prog ops Q (o :: rest) a wr := by
  obtain ⟨i, hi, hz, hsize, hby⟩ := info_partsC infoE3
  have ht := Tryd.underlying49
  obtain ⟨ao, cap, rfl, h1, h2, h3⟩ := hr
  have hml : es.length + fs.length ≤ maxLen := by unfold maxLen; omega
  have fin : ∀ v' w', w'.ownsRow base 37 4 v' (es.length + fs.length) (evsL es ++ evsL fs) → wr.grownBy w' v.ownBlock → wpList Tryd.prog ops Q rest (a.put o.dst v') w' := fun v' w' r g => by
    refine h v' w' ?_ g
    unfold RowE
    rw [List.length_append, evsL_append]
    exact r
  by_cases hu : fs.length = 0
  · obtain rfl : fs = [] := List.eq_nil_of_length_eq_zero hu
    cases ao with
    | none =>
      obtain rfl := h2 rfl
      have hr : ∀ ty, (Builtin.append_ #[49, 49] ty #[v, .slice none 0 0]).run Tryd.prog wr = .ok v wr := fun ty => run_append_owned_none (P := Tryd.prog) wr base 49 ty 37 i 4 ht hi v es.length (evsL es) hown
      refine wpList_plain hgd fun K hK => ?_
      unfold Oper.wp execOp
      simp only [ho, resolve, invoke, builtin, Sem.run_bind, Sem.run_pure, Result.andThen_ok, List.map_toArray, List.map_cons, List.map_nil, hs, hx, List.length_nil, hr]
      exact hK _ _ (h _ _ (by simpa using hown) (grownBy_refl _ _))
    | some ad =>
      refine wpList_append_own _ hgd s x 49 ho base 37 i _ 4 32 ht hi hz hsize hby rfl (by decide) v es.length (evsL es) hs hown ad 0 cap [] hx (by simp) (by simp) (by simp) (by simpa using hml) (by simp at hl ⊢; omega) hsz ?_
      intro v' w' hown' hgrow _
      exact fin v' w' (by simpa [evsL] using hown') hgrow
  · obtain ⟨g, off, rfl, lt, _⟩ := h3 0 (by omega)
    refine wpList_append_own _ hgd s x 49 ho base 37 i _ 4 32 ht hi hz hsize hby rfl (by decide) v es.length (evsL es) hs hown ⟨g, off, none⟩ fs.length cap (evsL fs) hx (evsL_len fs) ?_ (evsL_one fs) hml (by omega) hsz ?_
    · intro j u hj
      have hjl : j < fs.length * 4 := by have := (List.getElem?_eq_some_iff.1 hj).1; rwa [evsL_len] at this
      obtain ⟨g', o', e1, _, hc⟩ := h3 (j / 4) (by omega)
      cases e1
      have hadd : (⟨g, off, none⟩ : Addr).add j = ⟨g, off + j, none⟩ := by unfold Addr.add; split <;> simp_all
      have hd : j = j / 4 * 4 + j % 4 := by omega
      have ha := evsL_at fs (j / 4) (j % 4) (by omega) (by omega)
      rw [← hd, hj] at ha
      have := hc (j % 4) u ha.symm
      rw [show off + j / 4 * 4 + j % 4 = off + j from by omega] at this
      rw [hadd]; exact this
    · intro v' w' hown' hgrow _
      exact fin v' w' hown' hgrow

/-- One event in a new block. -/
theorem RdV.one (w : World) (e : Ev) : RdV (w.alloc (.cells (evL e).toArray 37)) (.slice (some ⟨w.heap.size, 0, none⟩) 1 1) [e] := by
  refine ⟨_, 1, rfl, Nat.le_refl _, (fun h => by cases h), fun i hi => ⟨_, _, rfl, by simp, ?_⟩⟩
  have hi0 : i = 0 := by simpa using hi
  subst hi0
  exact (Blk.new 37 (evL e) w).all
/-- 'v = append(v, event)', the new slice laid open. -/
theorem wpList_pushE {wr : World} {ops : Array Oper} {rest : List Oper} {o : Oper} {a : Act} {Q : Exit → Act → World → Prop} (hgd : o.guard = none) (s x : Operand)
    (ho : o.op = .call { callee := .builtin .append, args := #[s, x], argTypes := #[49, 49] })
    (base : Nat) (v v2 : Value) (es fs : List Ev) (hs : a.eval s = v) (hown : RowE base wr v es) (hsz : base ≤ wr.heap.size)
    (hx : a.eval x = v2) (hr : RdV wr v2 fs) (hl : (es.length + fs.length) * 32 ≤ 140737488355328)
    (h : ∀ ao n cap w', RowE base w' (.slice ao n cap) (es ++ fs) → wr.grownBy w' v.ownBlock → wpList Tryd.prog ops Q rest (a.put o.dst (.slice ao n cap)) w') :
    wpList Tryd.prog ops Q (o :: rest) a wr :=
  wpList_catE hgd s x ho base v v2 es fs hs hown hsz hx hr hl fun v' w' h1 h2 => by
    obtain ⟨ao, cap, rfl, _⟩ := h1.rd
    exact h _ _ _ _ h1 h2
end Go.Proofs.YtmbbigkpeefjjabDoor
