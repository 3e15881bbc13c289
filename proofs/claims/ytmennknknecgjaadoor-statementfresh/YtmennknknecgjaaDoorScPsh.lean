/-
  Ours: append of one struct (after ObRow).
-/
import Derived.Test.YtmennknknecgjaaDoorWirOwn
import Derived.Test.YtmennknknecgjaaDoorLedOwn
import Derived.Deep.AppendLies
namespace Go.Proofs.YtmennknknecgjaaDoor
open Go.RowKit

/-- 'v = append(v, x)' where x has k cells. -/
theorem wpList_pushR {P : Program} {wr : World} {ops : Array Oper} {rest : List Oper} {o : Oper} {a : Act} {Q : Exit → Act → World → Prop} (hgd : o.guard = none) (s x : Operand) (t : TypeId)
    (ho : o.op = .call { callee := .builtin .append, args := #[s, x], argTypes := #[t, t] })
    (e : TypeId) (i : TypeInfo) (z : Value) (k by' : Nat) (ht : P.underlying t = some (.slice e)) (hi : P.info? e = some i) (hz : i.zero = some z) (hsize : i.size = k) (hby : i.bytes = by') (hzc : z.cells.size = k) (hk : 0 < k)
    (base : Nat) (v : Value) (n : Nat) (vs cs : List Value) (hc : cs.length = k) (hy : ∀ u ∈ cs, u.oneCell' = true) (hs : a.eval s = v) (hown : wr.ownsRow base e k v n vs) (hsz : base ≤ wr.heap.size)
    (hx : a.eval x = .slice (some ⟨wr.heap.size, 0, none⟩) 1 1) (hl : n + 1 ≤ maxLen) (hl2 : (n + 1) * by' ≤ 140737488355328)
    (h : ∀ a' n' c' w', w'.ownsRow base e k (.slice a' n' c') (n + 1) (vs ++ cs) → wr.grownBy w' v.ownBlock → (∀ g, (Value.slice a' n' c').ownBlock = some g → v.ownBlock = some g ∨ wr.heap.size ≤ g) → wpList P ops Q rest (a.put o.dst (.slice a' n' c')) w') :
    wpList P ops Q (o :: rest) a (wr.alloc (.cells cs.toArray e)) := by
  have hW : (wr.alloc (.cells cs.toArray e)).heap.size = wr.heap.size + 1 := by simp
  refine wpList_append_lies _ hgd s x t ho base e i z k by' ht hi hz hsize hby hzc hk v n vs hs (World.ownsRow.alloc hown _) ⟨wr.heap.size, 0, none⟩ 1 1 cs hx (by omega) ?_ hy (by decide) hl hl2 (by omega) (wr.heap.size + 1) hW ?_
  · intro j u hj
    exact World.news_of_block (cs := cs.toArray) (t := e) (fr := (0, 0)) (MapKept.heap_alloc wr _).1 j u (by simpa using hj)
  · intro g cap w' hown' hgrow hg _
    refine h _ _ _ w' hown' ⟨hgrow.os, hgrow.tape, hgrow.output, Nat.le_trans (by simp) hgrow.size, fun k hk hn => ?_⟩ (fun g' e' => ?_)
    · rw [hgrow.block k (by omega) hn]
      exact (below_alloc wr (.cells cs.toArray e)).block k hk
    · have : g = g' := by simpa [Value.ownBlock] using e'
      subst this
      rcases hg with h1 | h1
      · exact .inl h1
      · exact .inr (by omega)
end Go.Proofs.YtmennknknecgjaaDoor
