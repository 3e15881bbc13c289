/-
  Ours: lists of keys, as they read and as a call has made them (after LedEnt, LedCat).
-/
import Derived.Test.YtfdehlfhnlgcjaaDoorTqCall
namespace Go.Proofs.YtfdehlfhnlgcjaaDoor
open Go.RowKit TqM

theorem TQ.QAt.nodup' {R : Nat} {S : Nat → Prop} {L : List (Ky × Int)} {w : World} (h : TQ.QAt R S L w) : (L.map (·.1)).Nodup := by
  obtain ⟨bm, vh, hp, f, q, h⟩ := h
  exact h.nodup
namespace TqM
def kN (es : List Ky) (i : Nat) : Ky := es.getD i ⟨0, 0, 0⟩
theorem kN_at {es : List Ky} {i : Nat} (h : i < es.length) : kN es i = es[i] := by simp [kN, List.getD_eq_getElem?_getD, List.getElem?_eq_getElem h]
theorem take_kN {es : List Ky} {i : Nat} (h : i < es.length) : es.take (i + 1) = es.take i ++ [kN es i] := by
  rw [kN_at h, List.take_add_one, List.getElem?_eq_getElem h]; rfl
end TqM
/-- The slice value v reads as the keys es. -/
def RdK (w : World) (v : Value) (es : List Ky) : Prop :=
  ∃ ao cap, v = .slice ao es.length cap ∧ es.length ≤ cap ∧ (ao = none → cap = 0) ∧ ∀ i, i < es.length → ∃ g o, ao = some ⟨g, o, none⟩ ∧ g < w.heap.size ∧ w.rangeAt g (o + i * 3) (kyL (kN es i))
theorem range_later {w w' : World} {g o : Nat} {cs : List Value} (h : w.rangeAt g o cs) (hg : g < w.heap.size) (hb : Below w.heap.size w w') : w'.rangeAt g o cs := fun j v hv => (hb.cell (p := ⟨g, o + j, none⟩) hg).trans (h j v hv)
theorem RdK.later {w w' : World} {v : Value} {es : List Ky} (h : RdK w v es) (hb : Below w.heap.size w w') : RdK w' v es := by
  obtain ⟨ao, cap, rfl, h1, h2, h3⟩ := h
  refine ⟨ao, cap, rfl, h1, h2, fun i hi => ?_⟩
  obtain ⟨g, o, e, lt, r⟩ := h3 i hi
  exact ⟨g, o, e, Nat.lt_of_lt_of_le lt hb.size, range_later r lt hb⟩
theorem cell_kpK {w w' : World} {M : Nat → Prop} {x : Addr} {v : Value} (k : Kp M w w') (hm : ¬ M x.block) (h : w.cell? x = some v) : w'.cell? x = some v := by
  have hl := World.block_lt_of_cell? _ _ h
  rw [← h]
  simp only [World.cell?, k.block x.block hl hm]
theorem RdK.kp {w w' : World} {v : Value} {es : List Ky} {M : Nat → Prop} (h : RdK w v es) (k : Kp M w w') (hm : 0 < es.length → ∀ g, v.ownBlock = some g → ¬ M g) : RdK w' v es := by
  obtain ⟨ao, cap, rfl, h1, h2, h3⟩ := h
  refine ⟨ao, cap, rfl, h1, h2, fun i hi => ?_⟩
  obtain ⟨g, o, e, lt, r⟩ := h3 i hi
  exact ⟨g, o, e, Nat.lt_of_lt_of_le lt k.size, fun j u hu => cell_kpK k (hm (by omega) g (by rw [e]; rfl)) (r j u hu)⟩
theorem RdK.cells {w : World} {ao : Option Addr} {n cap : Nat} {es : List Ky} (h : RdK w (.slice ao n cap) es) {i : Nat} (hi : i < n) : ∃ g o, ao = some ⟨g, o, none⟩ ∧ w.cell? ⟨g, o + i * 3, none⟩ = some (.int .i64 (kN es i).d) ∧ w.cell? ⟨g, o + i * 3 + 1, none⟩ = some (.int .i64 (kN es i).l) ∧ w.cell? ⟨g, o + i * 3 + 2, none⟩ = some (.int .i64 (kN es i).n) ∧ g < w.heap.size := by
  obtain ⟨ao', cap', e, _, _, H⟩ := h
  injection e with e1 e2 e3
  subst e1 e2
  obtain ⟨g, o, e, lt, r⟩ := H i hi
  exact ⟨g, o, e, r 0 _ rfl, r 1 _ rfl, r 2 _ rfl, lt⟩
namespace TqM
def ksL (es : List Ky) : List Value := es.flatMap kyL
theorem ksL_len : ∀ es : List Ky, (ksL es).length = es.length * 3
  | [] => rfl
  | e :: r => by
    have := ksL_len r
    simp only [ksL, List.flatMap_cons, List.length_append, List.length_cons] at this ⊢
    rw [show (kyL e).length = 3 from rfl]; omega
theorem ksL_append (es fs : List Ky) : ksL (es ++ fs) = ksL es ++ ksL fs := by simp [ksL]
theorem ksL_one (es : List Ky) : ∀ v ∈ ksL es, v.oneCell' = true := fun v hv => by
  obtain ⟨e, _, h⟩ := List.mem_flatMap.1 hv
  simp [kyL] at h
  rcases h with rfl | rfl | rfl <;> rfl
theorem ksL_at : ∀ (es : List Ky) (i j : Nat), i < es.length → j < 3 → (ksL es)[i * 3 + j]? = (kyL (kN es i))[j]?
  | e :: r, 0, j, _, hj => by
    rw [Nat.zero_mul, Nat.zero_add]
    show (kyL e ++ ksL r)[j]? = _
    rw [List.getElem?_append_left (by simpa [kyL] using hj)]; rfl
  | e :: r, i + 1, j, h, hj => by
    have ih := ksL_at r i j (by simpa using h) hj
    show (kyL e ++ ksL r)[(i + 1) * 3 + j]? = _
    rw [List.getElem?_append_right (by simp [kyL]; omega)]
    rw [show (i + 1) * 3 + j - (kyL e).length = i * 3 + j from by simp [kyL]; omega, ih]
    rfl
theorem kyL_get (e : Ky) (j : Nat) (v : Value) (h : (kyL e)[j]? = some v) : j < 3 := (List.getElem?_eq_some_iff.1 h).1
end TqM

/-- A row of entries that lies among blocks from 'base' on. -/
abbrev RowK (base : Nat) (w : World) (v : Value) (es : List Ky) : Prop := w.ownsRow base 24 3 v es.length (ksL es)
theorem RowK.nil (base : Nat) (w : World) : RowK base w (.slice none 0 0) [] := World.ownsRow_nil _ _ _ _
theorem RowK.later {base : Nat} {w w' : World} {v : Value} {es : List Ky} (h : RowK base w v es) (hb : Below w.heap.size w w') : RowK base w' v es := by
  refine World.ownsRow.kept h (row := none) ⟨hb.os, hb.tape, hb.output, hb.size, fun k hk _ => hb.block k hk⟩ ?_
  cases hv : v.ownBlock <;> simp
theorem RowK.kept {base : Nat} {w w' : World} {v : Value} {row : Option Nat} {es : List Ky} (h : RowK base w v es) (hb : w.grownBy w' row) (hn : ∀ g, v.ownBlock = some g → row ≠ some g) : RowK base w' v es := by
  refine World.ownsRow.kept h hb ?_
  cases hv : v.ownBlock with
  | none => exact .inl rfl
  | some g => exact .inr fun e => hn g hv e.symm
theorem RowK.mono {base base' : Nat} {w : World} {v : Value} {es : List Ky} (h : RowK base w v es) (hb : base' ≤ base) : RowK base' w v es := by
  refine ⟨h.1, ?_⟩
  rcases h.2 with hn | ⟨g, cap, cur, hv, hg, rest⟩
  · exact .inl hn
  · exact .inr ⟨g, cap, cur, hv, Nat.le_trans hb hg, rest⟩
theorem RowK.ge {base : Nat} {w : World} {v : Value} {es : List Ky} (h : RowK base w v es) {g : Nat} (hg : v.ownBlock = some g) : base ≤ g := (World.ownsRow.lt h g hg).1
theorem RowK.lt {base : Nat} {w : World} {v : Value} {es : List Ky} (h : RowK base w v es) {g : Nat} (hg : v.ownBlock = some g) : g < w.heap.size := (World.ownsRow.lt h g hg).2
theorem RowK.rd {base : Nat} {w : World} {v : Value} {es : List Ky} (h : RowK base w v es) : RdK w v es := by
  have hc := fun (g : Nat) (hg : v.ownBlock = some g) => World.ownsRow.cells h hg
  have hlt := fun (g : Nat) (hg : v.ownBlock = some g) => h.lt hg
  rcases h.2 with ⟨hv, h0⟩ | ⟨g, cap, cur, rfl, hb, hg, hn, hm, hcs, htk⟩
  · have e0 : es = [] := List.eq_nil_of_length_eq_zero h0
    subst e0
    exact ⟨none, 0, hv, Nat.le_refl _, fun _ => rfl, fun i hi => by simp at hi⟩
  · refine ⟨some ⟨g, 0, none⟩, cap, rfl, hn, (fun h => by cases h), fun i hi => ⟨g, 0, rfl, hlt g rfl, fun j v hv => ?_⟩⟩
    have hj := kyL_get _ _ _ hv
    have := hc g rfl (i * 3 + j) v (by rw [ksL_at es i j hi hj]; exact hv)
    have hadd : (⟨g, 0, none⟩ : Addr).add (i * 3 + j) = ⟨g, i * 3 + j, none⟩ := by unfold Addr.add; split <;> simp_all
    rw [hadd] at this
    rw [Nat.zero_add]
    exact this
theorem infoK3 : (Tryd.prog.info? 24).map (fun i => (i.zero, i.size, i.bytes)) = some (some (.agg #[.int .i64 0, .int .i64 0, .int .i64 0]), 3, 24) := by kernel_rfl

theorem wpList_catK {wr : World} {ops : Array Oper} {rest : List Oper} {o : Oper} {a : Act} {Q : Exit → Act → World → Prop} (hgd : o.guard = none) (s x : Operand)
    (ho : o.op = .call { callee := .builtin .append, args := #[s, x], argTypes := #[86, 86] })
    (base : Nat) (v v2 : Value) (es fs : List Ky) (hs : a.eval s = v) (hown : RowK base wr v es) (hsz : base ≤ wr.heap.size)
    (hx : a.eval x = v2) (hr : RdK wr v2 fs) (hl : es.length + fs.length ≤ 1000000000000)
    (h : ∀ v' w', RowK base w' v' (es ++ fs) → wr.grownBy w' v.ownBlock → wpList Tryd.prog ops Q rest (a.put o.dst v') w') :
    wpList Tryd.prog ops Q (o :: rest) a wr := by
  obtain ⟨i, hi, hz, hsize, hby⟩ := info_parts infoK3
  have ht := Tryd.underlying86
  obtain ⟨ao, cap, rfl, h1, h2, h3⟩ := hr
  have hml : es.length + fs.length ≤ maxLen := by unfold maxLen; omega
  have fin : ∀ v' w', w'.ownsRow base 24 3 v' (es.length + fs.length) (ksL es ++ ksL fs) → wr.grownBy w' v.ownBlock → wpList Tryd.prog ops Q rest (a.put o.dst v') w' := fun v' w' r g => by
    refine h v' w' ?_ g
    unfold RowK
    rw [List.length_append, ksL_append]
    exact r
  by_cases hu : fs.length = 0
  · obtain rfl : fs = [] := List.eq_nil_of_length_eq_zero hu
    cases ao with
    | none =>
      obtain rfl := h2 rfl
      have hr : ∀ ty, (Builtin.append_ #[86, 86] ty #[v, .slice none 0 0]).run Tryd.prog wr = .ok v wr := fun ty => run_append_owned_none (P := Tryd.prog) wr base 86 ty 24 i 3 ht hi v es.length (ksL es) hown
      refine wpList_plain hgd fun K hK => ?_
      unfold Oper.wp execOp
      simp only [ho, resolve, invoke, builtin, Sem.run_bind, Sem.run_pure, Result.andThen_ok, List.map_toArray, List.map_cons, List.map_nil, hs, hx, List.length_nil, hr]
      exact hK _ _ (h _ _ (by simpa using hown) (grownBy_refl _ _))
    | some ad =>
      refine wpList_append_own _ hgd s x 86 ho base 24 i _ 3 24 ht hi hz hsize hby rfl (by decide) v es.length (ksL es) hs hown ad 0 cap [] hx (by simp) (by simp) (by simp) (by simpa using hml) (by simp at hl ⊢; omega) hsz ?_
      intro v' w' hown' hgrow _
      exact fin v' w' (by simpa [ksL] using hown') hgrow
  · obtain ⟨g, off, rfl, lt, _⟩ := h3 0 (by omega)
    refine wpList_append_own _ hgd s x 86 ho base 24 i _ 3 24 ht hi hz hsize hby rfl (by decide) v es.length (ksL es) hs hown ⟨g, off, none⟩ fs.length cap (ksL fs) hx (ksL_len fs) ?_ (ksL_one fs) hml (by omega) hsz ?_
    · intro j u hj
      have hjl : j < fs.length * 3 := by have := (List.getElem?_eq_some_iff.1 hj).1; rwa [ksL_len] at this
      obtain ⟨g', o', e1, _, hc⟩ := h3 (j / 3) (by omega)
      cases e1
      have hadd : (⟨g, off, none⟩ : Addr).add j = ⟨g, off + j, none⟩ := by unfold Addr.add; split <;> simp_all
      have hd : j = j / 3 * 3 + j % 3 := by omega
      have ha := ksL_at fs (j / 3) (j % 3) (by omega) (by omega)
      rw [← hd, hj] at ha
      have := hc (j % 3) u ha.symm
      rw [show off + j / 3 * 3 + j % 3 = off + j from by omega] at this
      rw [hadd]; exact this
    · intro v' w' hown' hgrow _
      exact fin v' w' hown' hgrow

/-- One entry in a new block. -/
theorem RdK.one (w : World) (e : Ky) : RdK (w.alloc (.cells (kyL e).toArray 24)) (.slice (some ⟨w.heap.size, 0, none⟩) 1 1) [e] := by
  refine ⟨_, _, rfl, Nat.le_refl _, (fun h => by cases h), fun i hi => ?_⟩
  obtain rfl : i = 0 := by simpa using hi
  exact ⟨_, _, rfl, by simp, (Blk.new 24 (kyL e) w).all⟩
/-- A cut of what reads as entries. -/
theorem RdK.take {w : World} {a : Option Addr} {n c : Nat} {es : List Ky} (h : RdK w (.slice a n c) es) {k : Nat} (hk : k ≤ n) : RdK w (.slice a k c) (es.take k) := by
  obtain ⟨ao, cap, e, h1, h2, h3⟩ := h
  injection e with e1 e2 e3
  subst e1 e2 e3
  refine ⟨_, _, by rw [List.length_take, Nat.min_eq_left hk], by rw [List.length_take]; omega, h2, fun i hi => ?_⟩
  rw [List.length_take] at hi
  obtain ⟨g, o, e, lt, r⟩ := h3 i (by omega)
  refine ⟨g, o, e, lt, ?_⟩
  rw [show kN (es.take k) i = kN es i from by simp only [kN, List.getD_eq_getElem?_getD, List.getElem?_take]; rw [if_pos (by omega)]]
  exact r
theorem RdK.drop {w : World} {g o n c : Nat} {es : List Ky} (h : RdK w (.slice (some ⟨g, o, none⟩) n c) es) {k : Nat} (hk : k ≤ n) : RdK w (.slice (some ⟨g, o + k * 3, none⟩) (n - k) (c - k)) (es.drop k) := by
  obtain ⟨ao, cap, e, h1, h2, h3⟩ := h
  injection e with e1 e2 e3
  subst e1 e2 e3
  refine ⟨_, _, by rw [List.length_drop], by rw [List.length_drop]; omega, (fun h => by cases h), fun i hi => ?_⟩
  rw [List.length_drop] at hi
  obtain ⟨g', o', e, lt, r⟩ := h3 (k + i) (by omega)
  cases e
  refine ⟨g, o + k * 3, rfl, lt, ?_⟩
  rw [show kN (es.drop k) i = kN es (k + i) from by simp only [kN, List.getD_eq_getElem?_getD, List.getElem?_drop], show o + k * 3 + i * 3 = o + (k + i) * 3 from by omega]
  exact r
end Go.Proofs.YtfdehlfhnlgcjaaDoor
