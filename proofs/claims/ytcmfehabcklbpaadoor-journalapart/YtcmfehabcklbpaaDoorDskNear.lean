/-
  Ours: append of any row, and where the new row lies.
-/
import Derived.Test.YtcmfehabcklbpaaDoorWirNear
namespace Go.Proofs.YtcmfehabcklbpaaDoor
open Go.RowKit

theorem wpList_catN {P : Program} {wr : World} {ops : Array Oper} {rest : List Oper} {o : Oper} {a : Act} {Q : Exit → Act → World → Prop} (hgd : o.guard = none) (s x : Operand) (t : TypeId)
    (ho : o.op = .call { callee := .builtin .append, args := #[s, x], argTypes := #[t, t] })
    (e : TypeId) (i : TypeInfo) (z : Value) (by' : Nat) (ht : P.underlying t = some (.slice e)) (hi : P.info? e = some i) (hz : i.zero = some z) (hsize : i.size = 1) (hby : i.bytes = by') (hzc : z.cells.size = 1)
    (base : Nat) (v v2 : Value) (vs us : List Value) (hy : ∀ u ∈ us, u.oneCell' = true) (hs : a.eval s = v) (hown : RowV e base wr v vs) (hsz : base ≤ wr.heap.size)
    (hx : a.eval x = v2) (hr : Rd wr v2 us) (hl : vs.length + us.length ≤ maxLen) (hl2 : (vs.length + us.length) * by' ≤ 140737488355328)
    (h : ∀ v' w', RowV e base w' v' (vs ++ us) → wr.grownBy w' v.ownBlock → Near wr v v' → wpList P ops Q rest (a.put o.dst v') w') :
    wpList P ops Q (o :: rest) a wr := by
  obtain ⟨ao, cap, rfl, h1, h2, h3⟩ := hr
  cases ao with
  | none =>
    obtain rfl := h2 rfl
    obtain rfl : us = [] := List.eq_nil_of_length_eq_zero (by omega)
    have hr : ∀ ty, (Builtin.append_ #[t, t] ty #[v, .slice none 0 0]).run P wr = .ok v wr := fun ty => run_append_owned_none (P := P) wr base t ty e i 1 ht hi v vs.length vs hown
    refine wpList_plain hgd fun K hK => ?_
    unfold Oper.wp execOp
    simp only [ho, resolve, invoke, builtin, Sem.run_bind, Sem.run_pure, Result.andThen_ok, List.map_toArray, List.map_cons, List.map_nil, hs, hx, List.length_nil, hr]
    exact hK _ _ (h _ _ (by simpa using hown) (grownBy_refl _ _) (Near.refl _ _))
  | some ad =>
    refine wpList_appN _ hgd s x t ho e i z by' ht hi hz hsize hby hzc base v vs us hy hs hown hsz ad cap hx ?_ hl hl2 h
    intro j u hj
    obtain ⟨hjl, rfl⟩ := List.getElem?_eq_some_iff.1 hj
    obtain ⟨g', o', e1, _, hc⟩ := h3 j hjl
    cases e1
    rw [Addr.add_lit]; exact hc
end Go.Proofs.YtcmfehabcklbpaaDoor
