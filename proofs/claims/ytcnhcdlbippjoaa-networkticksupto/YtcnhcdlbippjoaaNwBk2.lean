/-
  Ours: the book with one more answer of Tick; appends in drawn regions.
-/
import Derived.Test.YtcnhcdlbippjoaaNwBk
import Derived.Test.YtcnhcdlbippjoaaNwTick
import Derived.Deep.RegionHeld
import Derived.MapKept
namespace Go.Proofs.Ytcnhcdlbippjoaa
open Go.RowKit NwM
theorem op_pushR {P : Program} {wr : World} {ops : Array Oper} {o : Oper} {a : Act} {K : Act → World → Prop} {Q : Exit → Act → World → Prop} {E : Prop} (hgd : o.guard = none) (s x : Operand) (t : TypeId)
    (ho : o.op = .call { callee := .builtin .append, args := #[s, x], argTypes := #[t, t] })
    (e : TypeId) (i : TypeInfo) (z : Value) (by' : Nat) (ht : P.underlying t = some (.slice e)) (hi : P.info? e = some i) (hz : i.zero = some z) (hsize : i.size = 1) (hby : i.bytes = by') (hzc : z.cells.size = 1)
    (base : Nat) (v : Value) (vs : List Value) (y : Value) (hy : y.oneCell' = true) (hs : a.eval s = v) (hown : RowV e base wr v vs) (hsz : base ≤ wr.heap.size)
    (hx : a.eval x = .slice (some ⟨wr.heap.size, 0, none⟩) 1 1) (hl : vs.length + 1 ≤ maxLen) (hl2 : (vs.length + 1) * by' ≤ 140737488355328)
    (h : ∀ a' n' c' w', RowV e base w' (.slice a' n' c') (vs ++ [y]) → wr.grownBy w' v.ownBlock → (∀ g, (Value.slice a' n' c').ownBlock = some g → v.ownBlock = some g ∨ wr.heap.size ≤ g) → K (a.put o.dst (.slice a' n' c')) w') :
    if Region.wanted o (yielded ops a.tmps) = true then Oper.wp P o a (wr.alloc (.cells #[y] e)) K Q else E := by
  have hW : (wr.alloc (.cells #[y] e)).heap.size = wr.heap.size + 1 := by simp
  refine step_append_lies _ hgd s x t ho base e i z 1 by' ht hi hz hsize hby hzc (by decide) v vs.length vs hs (World.ownsRow.alloc hown _) ⟨wr.heap.size, 0, none⟩ 1 1 [y] hx rfl ?_ (fun u hu => by simp at hu; subst hu; exact hy) (by decide) hl hl2 (by omega) (wr.heap.size + 1) hW ?_
  · intro j u hj
    exact World.news_of_block (cs := #[y]) (t := e) (fr := (0, 0)) (MapKept.heap_alloc wr _).1 j u (by simpa using hj)
  · intro g cap w' hown' hgrow hg _
    refine h _ _ _ w' (by simpa [RowV] using hown') ⟨hgrow.os, hgrow.tape, hgrow.output, Nat.le_trans (by simp) hgrow.size, fun k hk hn => ?_⟩ (fun g' e' => ?_)
    · rw [hgrow.block k (by omega) hn]
      exact (below_alloc wr (.cells #[y] e)).block k hk
    · have : g = g' := by simpa [Value.ownBlock] using e'
      subst this
      rcases hg with h1 | h1
      · exact .inl h1
      · exact .inr (by omega)
theorem at_app {α : Type} {l : List α} {x y : α} {i : Nat} (h : (l ++ [x])[i]? = some y) : l[i]? = some y ∨ (i = l.length ∧ y = x) := by
  rcases Nat.lt_trichotomy i l.length with q | q | q
  · rw [List.getElem?_append_left q] at h; exact .inl h
  · rw [List.getElem?_append_right (by omega), q, Nat.sub_self] at h
    simp at h
    exact .inr ⟨q, h.symm⟩
  · rw [List.getElem?_append_right (by omega)] at h
    have : i - l.length ≠ 0 := by omega
    cases hh : i - l.length with
    | zero => omega
    | succ k => rw [hh] at h; simp at h
theorem BkC.ids {M M' : Nat → Prop} {V V' : Nat → List Value} {w : World} (h : BkC M V w) {l l' : Value} (e0 : V' 0 = V 0 ++ [l]) (e1 : V' 1 = V 1 ++ [l']) (e2 : V' 2 = V 2) (e3 : V' 3 = V 3) (e4 : V' 4 = V 4) (kl : KV w (.int .i64 (-7 - ((V 0).length : Int))) l) (kl' : KV w (.int .i64 (-7 - ((V 0).length : Int))) l')
    (hm : ∀ g, M g → M' g) (ml : ∀ g, l.ownBlock = some g → M' g) (ml' : ∀ g, l'.ownBlock = some g → M' g) (lt : ∀ g, M' g → g < w.heap.size) : BkC M' V' w := by
  refine ⟨by rw [e0, e1, List.length_append, List.length_append, h.la]; rfl, by rw [e3, e4]; exact h.lb, fun i v hv => ?_, fun i v hv => ?_, fun i v hv => ?_, fun i v m hv hmm => ?_, lt⟩
  · rw [e0] at hv
    rcases at_app hv with hv | ⟨rfl, rfl⟩
    · exact ⟨(h.ka i v hv).1, fun g e => hm g ((h.ka i v hv).2 g e)⟩
    · exact ⟨kl, ml⟩
  · rw [e1] at hv
    rcases at_app hv with hv | ⟨rfl, rfl⟩
    · exact ⟨(h.kl i v hv).1, fun g e => hm g ((h.kl i v hv).2 g e)⟩
    · rw [h.la]; exact ⟨kl', ml'⟩
  · rw [e2] at hv; exact ⟨(h.ks i v hv).1, fun g e => hm g ((h.ks i v hv).2 g e)⟩
  · rw [e3] at hv; rw [e4] at hmm
    exact ⟨(h.kb i v m hv hmm).1, (h.kb i v m hv hmm).2.1, fun g e => hm g ((h.kb i v m hv hmm).2.2 g e)⟩
theorem rep_put (m : Value) (vs : List Value) {k : Nat} (hk : k < vs.length) : (List.replicate k m ++ vs.drop k).set k m = List.replicate (k + 1) m ++ vs.drop (k + 1) := by
  rw [List.set_append_right _ _ (by simp), List.length_replicate, Nat.sub_self, List.drop_eq_getElem_cons hk, List.set_cons_zero, List.replicate_succ', List.append_assoc]
  rfl
theorem infoS : (Try.prog.info? 62).map (fun i => (i.zero, i.size, i.bytes)) = some (some (.slice none 0 0), 1, 24) := by kernel_rfl
theorem infoSA : (Try.prog.info? 30).map (fun i => (i.zero, i.size, i.bytes)) = some (some (.slice none 0 0), 1, 24) := by kernel_rfl
theorem infoSB : (Try.prog.info? 31).map (fun i => (i.zero, i.size, i.bytes)) = some (some (.slice none 0 0), 1, 24) := by kernel_rfl
end Go.Proofs.Ytcnhcdlbippjoaa
