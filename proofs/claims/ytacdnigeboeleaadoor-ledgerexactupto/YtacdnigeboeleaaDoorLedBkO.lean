/-
  Ours: a book laid behind a row, with the old row's fate.
-/
import Derived.Test.YtacdnigeboeleaaDoorLedBkX
import Derived.Test.YtacdnigeboeleaaDoorFrmApp
namespace Go.Proofs.YtacdnigeboeleaaDoor
open Go.RowKit LedM

theorem wpList_catOldB {wr : World} {ops : Array Oper} {rest : List Oper} {o : Oper} {a : Act} {Q : Exit → Act → World → Prop} (hgd : o.guard = none) (s x : Operand)
    (ho : o.op = .call { callee := .builtin .append, args := #[s, x], argTypes := #[38, 38] })
    (base : Nat) (v v2 : Value) (es fs : List (List Int)) (tf : Tw fs) (hs : a.eval s = v) (hown : RowBk base wr v es) (hsz : base ≤ wr.heap.size)
    (hx : a.eval x = v2) (hr : RdBk wr v2 fs) (hl : es.length + fs.length ≤ 100000000) (hp : 0 < fs.length)
    (h : ∀ g cap w', RowBk base w' (.slice (some ⟨g, 0, none⟩) (es.length + fs.length) cap) (es ++ fs) → wr.grownBy w' v.ownBlock → (v.ownBlock = some g ∨ g = wr.heap.size) → wpList Tryd.prog ops Q rest (a.put o.dst (.slice (some ⟨g, 0, none⟩) (es.length + fs.length) cap)) w') :
    wpList Tryd.prog ops Q (o :: rest) a wr := by
  obtain ⟨i, hi, hz, hsize, hby⟩ := info_parts infoB12
  have ht := Tryd.underlying38
  obtain ⟨ao, cap, rfl, h1, h2, h3⟩ := hr
  have hml : es.length + fs.length ≤ maxLen := by unfold maxLen; omega
  obtain ⟨g, off, rfl, lt, _⟩ := h3 0 hp
  have hnews : ∀ j u, (bksL fs)[j]? = some u → wr.cell? ((⟨g, off, none⟩ : Addr).add j) = some u := fun j u hj => by
    have hjl : j < fs.length * 12 := by have := (List.getElem?_eq_some_iff.1 hj).1; rwa [bksL_len tf] at this
    obtain ⟨g', o', e1, _, hc⟩ := h3 (j / 12) (by omega)
    cases e1
    have hadd : (⟨g, off, none⟩ : Addr).add j = ⟨g, off + j, none⟩ := by unfold Addr.add; split <;> simp_all
    have hd : j = j / 12 * 12 + j % 12 := by omega
    have ha := bksL_at tf (j / 12) (j % 12) (by omega) (by omega)
    rw [← hd, hj] at ha
    have := hc (j % 12) u ha.symm
    rw [show off + j / 12 * 12 + j % 12 = off + j from by omega] at this
    rw [hadd]; exact this
  refine wpList_plain hgd fun K hK => ?_
  obtain ⟨g2, cap2, w2, hr2, o2, gr, fate, _⟩ := run_append_old (P := Tryd.prog) wr 38 o.type base 25 i _ 12 96 ht hi hz hsize hby rfl (by decide) v es.length (bksL es) hown ⟨g, off, none⟩ fs.length cap (bksL fs) (bksL_len tf) hnews (bksL_one fs) hp hml (by omega) hsz wr.heap.size rfl
  unfold Oper.wp execOp
  simp only [ho, resolve, invoke, builtin, Sem.run_bind, Sem.run_pure, Result.andThen_ok, List.map_toArray, List.map_cons, List.map_nil, hs, hx, hr2]
  refine hK _ _ (h g2 cap2 w2 ?_ gr ?_)
  · unfold RowBk
    rw [List.length_append, bksL_append]
    exact o2
  · rcases fate with e | ⟨e, _⟩
    · rw [e]; exact .inl rfl
    · exact .inr e
end Go.Proofs.YtacdnigeboeleaaDoor
