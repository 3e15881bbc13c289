/-
  Ours: rows of books that a call has made.
-/
import Derived.Test.YtmennknknecgjaaDoorLedTot
import Derived.Laws.CopyRow
import Derived.Laws.Rows
namespace Go.Proofs.YtmennknknecgjaaDoor
open Go.RowKit LedM

namespace LedM
def bksL (bs : List (List Int)) : List Value := bs.flatMap bkL
/-- Books, each of twelve numbers. -/
def Tw (bs : List (List Int)) : Prop := ∀ b ∈ bs, b.length = 12
theorem Tw.nil : Tw [] := fun b hb => by cases hb
theorem Tw.tail {b : List Int} {bs : List (List Int)} (h : Tw (b :: bs)) : Tw bs := fun c hc => h c (List.mem_cons_of_mem _ hc)
theorem Tw.app {bs cs : List (List Int)} (h : Tw bs) (k : Tw cs) : Tw (bs ++ cs) := fun b hb => (List.mem_append.1 hb).elim (h b) (k b)
theorem Tw.take {bs : List (List Int)} (h : Tw bs) (k : Nat) : Tw (bs.take k) := fun b hb => h b (List.mem_of_mem_take hb)
theorem bksL_len : ∀ {bs : List (List Int)}, Tw bs → (bksL bs).length = bs.length * 12
  | [], _ => rfl
  | b :: r, h => by
    have ih := bksL_len h.tail
    have hb := h b (List.mem_cons_self ..)
    simp only [bksL, List.flatMap_cons, List.length_append, List.length_cons] at ih ⊢
    rw [bkL_len, hb]; omega
theorem bksL_append (bs cs : List (List Int)) : bksL (bs ++ cs) = bksL bs ++ bksL cs := by simp [bksL]
theorem bksL_one (bs : List (List Int)) : ∀ v ∈ bksL bs, v.oneCell' = true := fun v hv => by
  obtain ⟨b, _, h⟩ := List.mem_flatMap.1 hv
  exact bkL_one b v h
theorem bksL_at : ∀ {bs : List (List Int)}, Tw bs → ∀ (i j : Nat), i < bs.length → j < 12 → (bksL bs)[i * 12 + j]? = (bkL (bN bs i))[j]?
  | b :: r, h, 0, j, _, hj => by
    have hb := h b (List.mem_cons_self ..)
    rw [Nat.zero_mul, Nat.zero_add]
    show (bkL b ++ bksL r)[j]? = _
    rw [List.getElem?_append_left (by rw [bkL_len, hb]; exact hj)]; rfl
  | b :: r, h, i + 1, j, hi, hj => by
    have hb := h b (List.mem_cons_self ..)
    have ih := bksL_at h.tail i j (by simpa using hi) hj
    show (bkL b ++ bksL r)[(i + 1) * 12 + j]? = _
    rw [List.getElem?_append_right (by rw [bkL_len, hb]; omega)]
    rw [show (i + 1) * 12 + j - (bkL b).length = i * 12 + j from by rw [bkL_len, hb]; omega, ih]
    rfl
theorem bN_len {bs : List (List Int)} (h : Tw bs) (i : Nat) (hi : i < bs.length) : (bN bs i).length = 12 := by rw [bN_at hi]; exact h _ (List.getElem_mem hi)
end LedM

/-- A row of books that lies among blocks from 'base' on. -/
abbrev RowBk (base : Nat) (w : World) (v : Value) (bs : List (List Int)) : Prop := w.ownsRow base 27 12 v bs.length (bksL bs)
theorem RowBk.nil (base : Nat) (w : World) : RowBk base w (.slice none 0 0) [] := World.ownsRow_nil _ _ _ _
theorem RowBk.later {base : Nat} {w w' : World} {v : Value} {bs : List (List Int)} (h : RowBk base w v bs) (hb : Below w.heap.size w w') : RowBk base w' v bs := by
  refine World.ownsRow.kept h (row := none) ⟨hb.os, hb.tape, hb.output, hb.size, fun k hk _ => hb.block k hk⟩ ?_
  cases hv : v.ownBlock <;> simp
theorem RowBk.ge {base : Nat} {w : World} {v : Value} {bs : List (List Int)} (h : RowBk base w v bs) {g : Nat} (hg : v.ownBlock = some g) : base ≤ g := (World.ownsRow.lt h g hg).1
theorem RowBk.lt {base : Nat} {w : World} {v : Value} {bs : List (List Int)} (h : RowBk base w v bs) {g : Nat} (hg : v.ownBlock = some g) : g < w.heap.size := (World.ownsRow.lt h g hg).2
theorem RowBk.rd {base : Nat} {w : World} {v : Value} {bs : List (List Int)} (h : RowBk base w v bs) (ht : Tw bs) : RdBk w v bs := by
  have hc := fun (g : Nat) (hg : v.ownBlock = some g) => World.ownsRow.cells h hg
  have hlt := fun (g : Nat) (hg : v.ownBlock = some g) => h.lt hg
  rcases h.2 with ⟨hv, h0⟩ | ⟨g, cap, cur, rfl, hb, hg, hn, hm, hcs, htk⟩
  · have e0 : bs = [] := List.eq_nil_of_length_eq_zero h0
    subst e0
    exact ⟨none, 0, hv, Nat.le_refl _, fun _ => rfl, fun i hi => by simp at hi⟩
  · refine ⟨some ⟨g, 0, none⟩, cap, rfl, hn, (fun h => by cases h), fun i hi => ⟨g, 0, rfl, hlt g rfl, fun j v hv => ?_⟩⟩
    have hj : j < 12 := by have := (List.getElem?_eq_some_iff.1 hv).1; rwa [bkL_len, bN_len ht i hi] at this
    have := hc g rfl (i * 12 + j) v (by rw [bksL_at ht i j hi hj]; exact hv)
    have hadd : (⟨g, 0, none⟩ : Addr).add (i * 12 + j) = ⟨g, i * 12 + j, none⟩ := by unfold Addr.add; split <;> simp_all
    rw [hadd] at this
    rw [Nat.zero_add]
    exact this
theorem infoB12 : (Tryd.prog.info? 27).map (fun i => (i.zero, i.size, i.bytes)) = some (some (.agg #[.int .i64 0, .int .i64 0, .int .i64 0, .int .i64 0, .int .i64 0, .int .i64 0, .int .i64 0, .int .i64 0, .int .i64 0, .int .i64 0, .int .i64 0, .int .i64 0]), 12, 96) := by kernel_rfl

theorem wpList_catB {wr : World} {ops : Array Oper} {rest : List Oper} {o : Oper} {a : Act} {Q : Exit → Act → World → Prop} (hgd : o.guard = none) (s x : Operand)
    (ho : o.op = .call { callee := .builtin .append, args := #[s, x], argTypes := #[58, 58] })
    (base : Nat) (v v2 : Value) (es fs : List (List Int)) (tf : Tw fs) (hs : a.eval s = v) (hown : RowBk base wr v es) (hsz : base ≤ wr.heap.size)
    (hx : a.eval x = v2) (hr : RdBk wr v2 fs) (hl : es.length + fs.length ≤ 100000000000)
    (h : ∀ v' w', RowBk base w' v' (es ++ fs) → wr.grownBy w' v.ownBlock → wpList Tryd.prog ops Q rest (a.put o.dst v') w') :
    wpList Tryd.prog ops Q (o :: rest) a wr := by
  obtain ⟨i, hi, hz, hsize, hby⟩ := info_parts infoB12
  have ht := Tryd.underlying58
  obtain ⟨ao, cap, rfl, h1, h2, h3⟩ := hr
  have hml : es.length + fs.length ≤ maxLen := by unfold maxLen; omega
  have fin : ∀ v' w', w'.ownsRow base 27 12 v' (es.length + fs.length) (bksL es ++ bksL fs) → wr.grownBy w' v.ownBlock → wpList Tryd.prog ops Q rest (a.put o.dst v') w' := fun v' w' r g => by
    refine h v' w' ?_ g
    unfold RowBk
    rw [List.length_append, bksL_append]
    exact r
  by_cases hu : fs.length = 0
  · obtain rfl : fs = [] := List.eq_nil_of_length_eq_zero hu
    cases ao with
    | none =>
      obtain rfl := h2 rfl
      have hr : ∀ ty, (Builtin.append_ #[58, 58] ty #[v, .slice none 0 0]).run Tryd.prog wr = .ok v wr := fun ty => run_append_owned_none (P := Tryd.prog) wr base 58 ty 27 i 12 ht hi v es.length (bksL es) hown
      refine wpList_plain hgd fun K hK => ?_
      unfold Oper.wp execOp
      simp only [ho, resolve, invoke, builtin, Sem.run_bind, Sem.run_pure, Result.andThen_ok, List.map_toArray, List.map_cons, List.map_nil, hs, hx, List.length_nil, hr]
      exact hK _ _ (h _ _ (by simpa using hown) (grownBy_refl _ _))
    | some ad =>
      refine wpList_append_own _ hgd s x 58 ho base 27 i _ 12 96 ht hi hz hsize hby rfl (by decide) v es.length (bksL es) hs hown ad 0 cap [] hx (by simp) (by simp) (by simp) (by simpa using hml) (by simp at hl ⊢; omega) hsz ?_
      intro v' w' hown' hgrow _
      exact fin v' w' (by simpa [bksL] using hown') hgrow
  · obtain ⟨g, off, rfl, lt, _⟩ := h3 0 (by omega)
    refine wpList_append_own _ hgd s x 58 ho base 27 i _ 12 96 ht hi hz hsize hby rfl (by decide) v es.length (bksL es) hs hown ⟨g, off, none⟩ fs.length cap (bksL fs) hx (bksL_len tf) ?_ (bksL_one fs) hml (by omega) hsz ?_
    · intro j u hj
      have hjl : j < fs.length * 12 := by have := (List.getElem?_eq_some_iff.1 hj).1; rwa [bksL_len tf] at this
      obtain ⟨g', o', e1, _, hc⟩ := h3 (j / 12) (by omega)
      cases e1
      have hadd : (⟨g, off, none⟩ : Addr).add j = ⟨g, off + j, none⟩ := by unfold Addr.add; split <;> simp_all
      have hd : j = j / 12 * 12 + j % 12 := by omega
      have ha := bksL_at tf (j / 12) (j % 12) (by omega) (by omega)
      rw [← hd, hj] at ha
      have := hc (j % 12) u ha.symm
      rw [show off + j / 12 * 12 + j % 12 = off + j from by omega] at this
      rw [hadd]; exact this
    · intro v' w' hown' hgrow _
      exact fin v' w' hown' hgrow
end Go.Proofs.YtmennknknecgjaaDoor
