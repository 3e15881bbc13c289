/-
  Ours: plans as they read, and rows of instalments that a call has made (after LedEnt, LedCat).
-/
import Derived.Test.YtekejcpgoijoaabAgM
namespace Go.Proofs.Ytekejcpgoijoaab
open Go.RowKit LedM AgM

/-- A load by the row behind a guard that wants it. -/
theorem step_loadG {P : Program} {ops : Array Oper} {rest : List Oper} {op : Oper} {a : Act} {w : World} {Q : Exit → Act → World → Prop} (hw : Region.wanted op (yielded ops a.tmps) = true) (ty : TypeId) (x : Operand) (ho : op.op = .load ty x)
    (G o : Nat) (hx : a.eval x = .pointer (some ⟨G, o, none⟩)) (cs : List Value) (d : TypeDesc) (hc : w.rangeAt G o cs)
    (hu : P.underlying ty = some d) (hd : d.isRow = true) (hi : (P.info? ty).map (·.size) = some cs.length)
    (h : wpList P ops Q rest (a.put op.dst (.agg cs.toArray)) w) : wpList P ops Q (op :: rest) a w :=
  BigFrame.wpList_want hw fun _ hK => wp_load_mid ty x ho G o hx cs d hc hu hd hi (hK _ _ h)
/-- The slice value v reads as the entries es. -/
def RdP (w : World) (v : Value) (es : List Ins) : Prop :=
  ∃ ao cap, v = .slice ao es.length cap ∧ es.length ≤ cap ∧ (ao = none → cap = 0) ∧ ∀ i, i < es.length → ∃ g o, ao = some ⟨g, o, none⟩ ∧ g < w.heap.size ∧ w.rangeAt g (o + i * 4) (insL (iN es i))
theorem range_later {w w' : World} {g o : Nat} {cs : List Value} (h : w.rangeAt g o cs) (hg : g < w.heap.size) (hb : Below w.heap.size w w') : w'.rangeAt g o cs := fun j v hv => (hb.cell (p := ⟨g, o + j, none⟩) hg).trans (h j v hv)
theorem RdP.later {w w' : World} {v : Value} {es : List Ins} (h : RdP w v es) (hb : Below w.heap.size w w') : RdP w' v es := by
  obtain ⟨ao, cap, rfl, h1, h2, h3⟩ := h
  refine ⟨ao, cap, rfl, h1, h2, fun i hi => ?_⟩
  obtain ⟨g, o, e, lt, r⟩ := h3 i hi
  exact ⟨g, o, e, Nat.lt_of_lt_of_le lt hb.size, range_later r lt hb⟩
theorem infoI (e : Ins) : (Try.prog.info? 32).map (·.size) = some (insL e).length := by show _ = some 4; kernel_rfl
theorem oneI (e : Ins) : ∀ v ∈ insL e, v.oneCell' = true := fun v hv => by
  simp [insL] at hv
  rcases hv with rfl | rfl | rfl | rfl <;> rfl


namespace AgM
def inL (es : List Ins) : List Value := es.flatMap insL
theorem inL_len : ∀ es : List Ins, (inL es).length = es.length * 4
  | [] => rfl
  | e :: r => by
    have := inL_len r
    simp only [inL, List.flatMap_cons, List.length_append, List.length_cons] at this ⊢
    rw [show (insL e).length = 4 from rfl]; omega
theorem inL_append (es fs : List Ins) : inL (es ++ fs) = inL es ++ inL fs := by simp [inL]
theorem inL_one (es : List Ins) : ∀ v ∈ inL es, v.oneCell' = true := fun v hv => by
  obtain ⟨e, _, h⟩ := List.mem_flatMap.1 hv
  simp [insL] at h
  rcases h with rfl | rfl | rfl | rfl <;> rfl
theorem inL_at : ∀ (es : List Ins) (i j : Nat), i < es.length → j < 4 → (inL es)[i * 4 + j]? = (insL (iN es i))[j]?
  | e :: r, 0, j, _, hj => by
    rw [Nat.zero_mul, Nat.zero_add]
    show (insL e ++ inL r)[j]? = _
    rw [List.getElem?_append_left (by simpa [insL] using hj)]; rfl
  | e :: r, i + 1, j, h, hj => by
    have ih := inL_at r i j (by simpa using h) hj
    show (insL e ++ inL r)[(i + 1) * 4 + j]? = _
    rw [List.getElem?_append_right (by simp [insL]; omega)]
    rw [show (i + 1) * 4 + j - (insL e).length = i * 4 + j from by simp [insL]; omega, ih]
    rfl
theorem insL_get (e : Ins) (j : Nat) (v : Value) (h : (insL e)[j]? = some v) : j < 4 := (List.getElem?_eq_some_iff.1 h).1
end AgM

/-- A row of entries that lies among blocks from 'base' on. -/
abbrev RowP (base : Nat) (w : World) (v : Value) (es : List Ins) : Prop := w.ownsRow base 32 4 v es.length (inL es)
theorem RowP.nil (base : Nat) (w : World) : RowP base w (.slice none 0 0) [] := World.ownsRow_nil _ _ _ _
theorem RowP.later {base : Nat} {w w' : World} {v : Value} {es : List Ins} (h : RowP base w v es) (hb : Below w.heap.size w w') : RowP base w' v es := by
  refine World.ownsRow.kept h (row := none) ⟨hb.os, hb.tape, hb.output, hb.size, fun k hk _ => hb.block k hk⟩ ?_
  cases hv : v.ownBlock <;> simp
theorem RowP.kept {base : Nat} {w w' : World} {v : Value} {row : Option Nat} {es : List Ins} (h : RowP base w v es) (hb : w.grownBy w' row) (hn : ∀ g, v.ownBlock = some g → row ≠ some g) : RowP base w' v es := by
  refine World.ownsRow.kept h hb ?_
  cases hv : v.ownBlock with
  | none => exact .inl rfl
  | some g => exact .inr fun e => hn g hv e.symm
theorem RowP.mono {base base' : Nat} {w : World} {v : Value} {es : List Ins} (h : RowP base w v es) (hb : base' ≤ base) : RowP base' w v es := by
  refine ⟨h.1, ?_⟩
  rcases h.2 with hn | ⟨g, cap, cur, hv, hg, rest⟩
  · exact .inl hn
  · exact .inr ⟨g, cap, cur, hv, Nat.le_trans hb hg, rest⟩
theorem RowP.ge {base : Nat} {w : World} {v : Value} {es : List Ins} (h : RowP base w v es) {g : Nat} (hg : v.ownBlock = some g) : base ≤ g := (World.ownsRow.lt h g hg).1
theorem RowP.lt {base : Nat} {w : World} {v : Value} {es : List Ins} (h : RowP base w v es) {g : Nat} (hg : v.ownBlock = some g) : g < w.heap.size := (World.ownsRow.lt h g hg).2
theorem RowP.rd {base : Nat} {w : World} {v : Value} {es : List Ins} (h : RowP base w v es) : RdP w v es := by
  have hc := fun (g : Nat) (hg : v.ownBlock = some g) => World.ownsRow.cells h hg
  have hlt := fun (g : Nat) (hg : v.ownBlock = some g) => h.lt hg
  rcases h.2 with ⟨hv, h0⟩ | ⟨g, cap, cur, rfl, hb, hg, hn, hm, hcs, htk⟩
  · have e0 : es = [] := List.eq_nil_of_length_eq_zero h0
    subst e0
    exact ⟨none, 0, hv, Nat.le_refl _, fun _ => rfl, fun i hi => by simp at hi⟩
  · refine ⟨some ⟨g, 0, none⟩, cap, rfl, hn, (fun h => by cases h), fun i hi => ⟨g, 0, rfl, hlt g rfl, fun j v hv => ?_⟩⟩
    have hj := insL_get _ _ _ hv
    have := hc g rfl (i * 4 + j) v (by rw [inL_at es i j hi hj]; exact hv)
    have hadd : (⟨g, 0, none⟩ : Addr).add (i * 4 + j) = ⟨g, i * 4 + j, none⟩ := by unfold Addr.add; split <;> simp_all
    rw [hadd] at this
    rw [Nat.zero_add]
    exact this
theorem infoI3 : (Try.prog.info? 32).map (fun i => (i.zero, i.size, i.bytes)) = some (some (.agg #[.int .i64 0, .int .i64 0, .int .i64 0, .bool false]), 4, 32) := by kernel_rfl

theorem wpList_catP {wr : World} {ops : Array Oper} {rest : List Oper} {o : Oper} {a : Act} {Q : Exit → Act → World → Prop} (hgd : o.guard = none) (s x : Operand)
    (ho : o.op = .call { callee := .builtin .append, args := #[s, x], argTypes := #[22, 22] })
    (base : Nat) (v v2 : Value) (es fs : List Ins) (hs : a.eval s = v) (hown : RowP base wr v es) (hsz : base ≤ wr.heap.size)
    (hx : a.eval x = v2) (hr : RdP wr v2 fs) (hl : es.length + fs.length ≤ 1000000000000)
    (h : ∀ v' w', RowP base w' v' (es ++ fs) → wr.grownBy w' v.ownBlock → wpList Try.prog ops Q rest (a.put o.dst v') w') :
    wpList Try.prog ops Q (o :: rest) a wr := by
  obtain ⟨i, hi, hz, hsize, hby⟩ := info_parts infoI3
  have ht := Try.underlying22
  obtain ⟨ao, cap, rfl, h1, h2, h3⟩ := hr
  have hml : es.length + fs.length ≤ maxLen := by unfold maxLen; omega
  have fin : ∀ v' w', w'.ownsRow base 32 4 v' (es.length + fs.length) (inL es ++ inL fs) → wr.grownBy w' v.ownBlock → wpList Try.prog ops Q rest (a.put o.dst v') w' := fun v' w' r g => by
    refine h v' w' ?_ g
    unfold RowP
    rw [List.length_append, inL_append]
    exact r
  by_cases hu : fs.length = 0
  · obtain rfl : fs = [] := List.eq_nil_of_length_eq_zero hu
    cases ao with
    | none =>
      obtain rfl := h2 rfl
      have hr : ∀ ty, (Builtin.append_ #[22, 22] ty #[v, .slice none 0 0]).run Try.prog wr = .ok v wr := fun ty => run_append_owned_none (P := Try.prog) wr base 22 ty 32 i 4 ht hi v es.length (inL es) hown
      refine wpList_plain hgd fun K hK => ?_
      unfold Oper.wp execOp
      simp only [ho, resolve, invoke, builtin, Sem.run_bind, Sem.run_pure, Result.andThen_ok, List.map_toArray, List.map_cons, List.map_nil, hs, hx, List.length_nil, hr]
      exact hK _ _ (h _ _ (by simpa using hown) (grownBy_refl _ _))
    | some ad =>
      refine wpList_append_own _ hgd s x 22 ho base 32 i _ 4 32 ht hi hz hsize hby rfl (by decide) v es.length (inL es) hs hown ad 0 cap [] hx (by simp) (by simp) (by simp) (by simpa using hml) (by simp at hl ⊢; omega) hsz ?_
      intro v' w' hown' hgrow _
      exact fin v' w' (by simpa [inL] using hown') hgrow
  · obtain ⟨g, off, rfl, lt, _⟩ := h3 0 (by omega)
    refine wpList_append_own _ hgd s x 22 ho base 32 i _ 4 32 ht hi hz hsize hby rfl (by decide) v es.length (inL es) hs hown ⟨g, off, none⟩ fs.length cap (inL fs) hx (inL_len fs) ?_ (inL_one fs) hml (by omega) hsz ?_
    · intro j u hj
      have hjl : j < fs.length * 4 := by have := (List.getElem?_eq_some_iff.1 hj).1; rwa [inL_len] at this
      obtain ⟨g', o', e1, _, hc⟩ := h3 (j / 4) (by omega)
      cases e1
      have hadd : (⟨g, off, none⟩ : Addr).add j = ⟨g, off + j, none⟩ := by unfold Addr.add; split <;> simp_all
      have hd : j = j / 4 * 4 + j % 4 := by omega
      have ha := inL_at fs (j / 4) (j % 4) (by omega) (by omega)
      rw [← hd, hj] at ha
      have := hc (j % 4) u ha.symm
      rw [show off + j / 4 * 4 + j % 4 = off + j from by omega] at this
      rw [hadd]; exact this
    · intro v' w' hown' hgrow _
      exact fin v' w' hown' hgrow

/-- One entry in a new block. -/
theorem RdP.one (w : World) (e : Ins) : RdP (w.alloc (.cells (insL e).toArray 32)) (.slice (some ⟨w.heap.size, 0, none⟩) 1 1) [e] := by
  refine ⟨_, _, rfl, Nat.le_refl _, (fun h => by cases h), fun i hi => ?_⟩
  obtain rfl : i = 0 := by simpa using hi
  exact ⟨_, _, rfl, by simp, (Blk.new 32 (insL e) w).all⟩
/-- A cut of what reads as entries. -/
theorem RdP.take {w : World} {a : Option Addr} {n c : Nat} {es : List Ins} (h : RdP w (.slice a n c) es) {k : Nat} (hk : k ≤ n) : RdP w (.slice a k c) (es.take k) := by
  obtain ⟨ao, cap, e, h1, h2, h3⟩ := h
  injection e with e1 e2 e3
  subst e1 e2 e3
  refine ⟨_, _, by rw [List.length_take, Nat.min_eq_left hk], by rw [List.length_take]; omega, h2, fun i hi => ?_⟩
  rw [List.length_take] at hi
  obtain ⟨g, o, e, lt, r⟩ := h3 i (by omega)
  refine ⟨g, o, e, lt, ?_⟩
  rw [show iN (es.take k) i = iN es i from by simp only [iN, List.getD_eq_getElem?_getD, List.getElem?_take]; rw [if_pos (by omega)]]
  exact r
theorem RdP.drop {w : World} {g o n c : Nat} {es : List Ins} (h : RdP w (.slice (some ⟨g, o, none⟩) n c) es) {k : Nat} (hk : k ≤ n) : RdP w (.slice (some ⟨g, o + k * 4, none⟩) (n - k) (c - k)) (es.drop k) := by
  obtain ⟨ao, cap, e, h1, h2, h3⟩ := h
  injection e with e1 e2 e3
  subst e1 e2 e3
  refine ⟨_, _, by rw [List.length_drop], by rw [List.length_drop]; omega, (fun h => by cases h), fun i hi => ?_⟩
  rw [List.length_drop] at hi
  obtain ⟨g', o', e, lt, r⟩ := h3 (k + i) (by omega)
  cases e
  refine ⟨g, o + k * 4, rfl, lt, ?_⟩
  rw [show iN (es.drop k) i = iN es (k + i) from by simp only [iN, List.getD_eq_getElem?_getD, List.getElem?_drop], show o + k * 4 + i * 4 = o + (k + i) * 4 from by omega]
  exact r
end Go.Proofs.Ytekejcpgoijoaab
