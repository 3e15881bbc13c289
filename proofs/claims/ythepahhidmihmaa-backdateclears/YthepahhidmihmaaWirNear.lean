/-
  Ours: append on a row of the call's own, with where the new row lies.
-/
import Derived.Test.YthepahhidmihmaaWirOwn
namespace Go.Proofs.Ythepahhidmihmaa
open Go.RowKit

/-- The new row lies where the old one lay, or in a new block. -/
def Near (w : World) (v v' : Value) : Prop := ∀ g, v'.ownBlock = some g → v.ownBlock = some g ∨ w.heap.size ≤ g
theorem Near.refl (w : World) (v : Value) : Near w v v := fun _ h => .inl h

theorem wpList_appN {P : Program} (wr : World) {ops : Array Oper} {rest : List Oper} {o : Oper} {a : Act} {Q : Exit → Act → World → Prop} (hgd : o.guard = none) (s x : Operand) (t : TypeId)
    (ho : o.op = .call { callee := .builtin .append, args := #[s, x], argTypes := #[t, t] })
    (e : TypeId) (i : TypeInfo) (z : Value) (by' : Nat) (ht : P.underlying t = some (.slice e)) (hi : P.info? e = some i) (hz : i.zero = some z) (hsize : i.size = 1) (hby : i.bytes = by') (hzc : z.cells.size = 1)
    (base : Nat) (v : Value) (vs us : List Value) (hy : ∀ u ∈ us, u.oneCell' = true) (hs : a.eval s = v) (hown : RowV e base wr v vs) (hsz : base ≤ wr.heap.size)
    (ad : Addr) (c : Nat) (hx : a.eval x = .slice (some ad) us.length c) (hc : ∀ j u, us[j]? = some u → wr.cell? (ad.add j) = some u) (hl : vs.length + us.length ≤ maxLen) (hl2 : (vs.length + us.length) * by' ≤ 140737488355328)
    (h : ∀ v' w', RowV e base w' v' (vs ++ us) → wr.grownBy w' v.ownBlock → Near wr v v' → wpList P ops Q rest (a.put o.dst v') w') :
    wpList P ops Q (o :: rest) a wr := by
  have fresh : ∀ v' w', w'.ownsRow wr.heap.size e 1 v' (vs.length + us.length) (vs ++ us) → wr.grownBy w' none → wpList P ops Q rest (a.put o.dst v') w' := by
    intro v' w' r1 gr
    have r2 : RowV e wr.heap.size w' v' (vs ++ us) := by simpa [RowV] using r1
    exact h v' w' (r2.mono hsz) (grownBy_none gr _) fun g hg => .inr (r2.block_ge hg)
  rcases hown.2 with ⟨rfl, h0⟩ | ⟨g, cap, cur, rfl, hb, hg, hn, hm, hcs, htk⟩
  · have x0 : vs = [] := List.eq_nil_of_length_eq_zero h0
    subst x0
    by_cases u0 : us.length = 0
    · obtain rfl : us = [] := List.eq_nil_of_length_eq_zero u0
      refine wpList_append_own _ hgd s x t ho base e i z 1 by' ht hi hz hsize hby hzc (by decide) (.slice none 0 0) 0 [] hs (World.ownsRow_nil _ _ _ _) ad 0 c [] hx (by simp) (by simp) (by simp) (by simp) (by simp) hsz ?_
      intro v' w' r1 gr hnil
      have : v' = .slice none 0 0 := hnil.2 ⟨rfl, rfl⟩
      subst this
      exact h _ w' (by simpa [RowV] using r1) gr (Near.refl _ _)
    · exact wpList_append_grows _ hgd s x t ho e i z 1 by' ht hi hz hsize hby hzc (by decide) none 0 0 [] hs (fun _ => ⟨rfl, rfl⟩) rfl (fun b hb => by cases hb) ad us.length c us hx (by simp) hc hy (by omega) (by simpa using hl) (by simpa using hl2) (by simpa using fresh)
  · by_cases hr : vs.length + us.length ≤ cap
    · refine wpList_append_fits _ hgd s x t ho base e i 1 ht hi hsize g vs.length cap vs hs hown ad us.length c us hx (by simp) hc hy hr fun w' r1 gr => ?_
      refine h _ w' (by simpa [RowV] using r1) gr fun g' h1 => .inl ?_
      exact h1
    · refine wpList_append_grows _ hgd s x t ho e i z 1 by' ht hi hz hsize hby hzc (by decide) (some ⟨g, 0, none⟩) vs.length cap vs hs (fun h => by cases h) (by simp) (fun b hb => ?_) ad us.length c us hx (by simp) hc hy (by omega) hl hl2 fresh
      cases hb
      exact fun j u hj => World.ownsRow.cells hown rfl j u hj

theorem wpList_pushN {P : Program} {wr : World} {ops : Array Oper} {rest : List Oper} {o : Oper} {a : Act} {Q : Exit → Act → World → Prop} (hgd : o.guard = none) (s x : Operand) (t : TypeId)
    (ho : o.op = .call { callee := .builtin .append, args := #[s, x], argTypes := #[t, t] })
    (e : TypeId) (i : TypeInfo) (z : Value) (by' : Nat) (ht : P.underlying t = some (.slice e)) (hi : P.info? e = some i) (hz : i.zero = some z) (hsize : i.size = 1) (hby : i.bytes = by') (hzc : z.cells.size = 1)
    (base : Nat) (v : Value) (vs : List Value) (y : Value) (hy : y.oneCell' = true) (hs : a.eval s = v) (hown : RowV e base wr v vs) (hsz : base ≤ wr.heap.size)
    (hx : a.eval x = .slice (some ⟨wr.heap.size, 0, none⟩) 1 1) (hl : vs.length + 1 ≤ maxLen) (hl2 : (vs.length + 1) * by' ≤ 140737488355328)
    (h : ∀ v' w', RowV e base w' v' (vs ++ [y]) → wr.grownBy w' v.ownBlock → Near wr v v' → wpList P ops Q rest (a.put o.dst v') w') :
    wpList P ops Q (o :: rest) a (wr.alloc (.cells #[y] e)) := by
  refine wpList_appN _ hgd s x t ho e i z by' ht hi hz hsize hby hzc base v vs [y] (fun u hu => by simp at hu; subst hu; exact hy) hs (World.ownsRow.alloc hown _) (by simp; omega) ⟨wr.heap.size, 0, none⟩ 1 hx ?_ hl hl2 ?_
  · intro j u hj
    match j, hj with
    | 0, hj => simp at hj; subst hj; simp [Addr.add]
  · intro v' w' r1 gr nr
    refine h v' w' r1 ⟨gr.os, gr.tape, gr.output, Nat.le_trans (by simp) gr.size, fun k hk hn => ?_⟩ fun g hg => ?_
    · rw [gr.block k (by simp; omega) hn]
      exact (below_alloc wr (.cells #[y] e)).block k hk
    · rcases nr g hg with h1 | h1
      · exact .inl h1
      · simp at h1; exact .inr (by omega)
end Go.Proofs.Ythepahhidmihmaa
