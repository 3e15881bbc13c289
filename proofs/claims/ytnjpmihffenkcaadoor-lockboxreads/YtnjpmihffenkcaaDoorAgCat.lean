/-
  Ours: append as a step of a region that draws its order (of DskWrote).
-/
import Derived.Test.YtnjpmihffenkcaaDoorWirOwn
import Derived.Deep.RegionHeld3
namespace Go.Proofs.YtnjpmihffenkcaaDoor
open Go.RowKit

theorem step_catV {P : Program} {wr : World} {ops : Array Oper} {o : Oper} {a : Act} {K : Act → World → Prop} {Q : Exit → Act → World → Prop} {E : Prop} (hgd : o.guard = none) (s x : Operand) (t : TypeId)
    (ho : o.op = .call { callee := .builtin .append, args := #[s, x], argTypes := #[t, t] })
    (e : TypeId) (i : TypeInfo) (z : Value) (by' : Nat) (ht : P.underlying t = some (.slice e)) (hi : P.info? e = some i) (hz : i.zero = some z) (hsize : i.size = 1) (hby : i.bytes = by') (hzc : z.cells.size = 1)
    (base : Nat) (v v2 : Value) (vs us : List Value) (hy : ∀ u ∈ us, u.oneCell' = true) (hs : a.eval s = v) (hown : RowV e base wr v vs) (hsz : base ≤ wr.heap.size)
    (hx : a.eval x = v2) (hr : Rd wr v2 us) (hl : vs.length + us.length ≤ maxLen) (hl2 : (vs.length + us.length) * by' ≤ 140737488355328)
    (h : ∀ v' w', RowV e base w' v' (vs ++ us) → wr.grownBy w' v.ownBlock → K (a.put o.dst v') w') :
    if Region.wanted o (yielded ops a.tmps) = true then Oper.wp P o a wr K Q else E := by
  have hw : Region.wanted o (yielded ops a.tmps) = true := by simp [Region.wanted, hgd]
  rw [if_pos hw]
  obtain ⟨ao, cap, rfl, h1, h2, h3⟩ := hr
  have key : ∃ v' w', (Builtin.append_ #[t, t] o.type #[v, .slice ao us.length cap]).run P wr = .ok v' w' ∧ RowV e base w' v' (vs ++ us) ∧ wr.grownBy w' v.ownBlock := by
    cases ao with
    | none =>
      obtain rfl := h2 rfl
      obtain rfl : us = [] := List.eq_nil_of_length_eq_zero (by omega)
      exact ⟨v, wr, run_append_owned_none (P := P) wr base t o.type e i 1 ht hi v vs.length vs hown, by simpa using hown, grownBy_refl _ _⟩
    | some ad =>
      obtain ⟨v', w', r1, r2, r3, _⟩ := run_append_own (P := P) wr base t o.type e i z 1 by' ht hi hz hsize hby hzc (by decide) v vs.length vs hown ad us.length cap us (by simp) (fun j u hj => by
        obtain ⟨hjl, rfl⟩ := List.getElem?_eq_some_iff.1 hj
        obtain ⟨g', o', e1, _, hc⟩ := h3 j hjl
        cases e1
        rw [Addr.add_lit]; exact hc) hy hl hl2 hsz
      exact ⟨v', w', r1, by simpa [RowV] using r2, r3⟩
  obtain ⟨v', w', r1, r2, r3⟩ := key
  unfold Oper.wp execOp
  simp only [ho, resolve, invoke, builtin, Sem.run_bind, Sem.run_pure, Result.andThen_ok, List.map_toArray, List.map_cons, List.map_nil, hs, hx, r1]
  exact h v' w' r2 r3

end Go.Proofs.YtnjpmihffenkcaaDoor
