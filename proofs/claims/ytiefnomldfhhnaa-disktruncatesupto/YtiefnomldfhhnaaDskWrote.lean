/-
  Ours: wrote.
-/
import Derived.Test.YtiefnomldfhhnaaDskSurP
import Derived.Test.YtiefnomldfhhnaaDskBeg
import Derived.Deep.CutRange
import Derived.Deep.RegionHeld3
namespace Go.Proofs.Ytiefnomldfhhnaa
open Go.RowKit

def wrR (o : OpD) (f : Int) (X : List Nat) : List Nat := if f = o.file then (if o.kind = 1 ∨ o.kind = 2 then X ++ handedL o else if o.kind = 4 then X.take o.a.toNat else X) else X
def wrD (o : OpD) (f : Int) (X Y : List Nat) : List Nat := if f = o.file then (if o.kind = 3 then X else if o.kind = 4 then X.take o.a.toNat else Y) else Y
/-- What a round of wrote looks at. -/
structure Rnd (w : World) (o : OpD) (f : Int) (aX : Option Addr) (cX : Nat) (aY : Option Addr) (cY : Nat) (aU : Option Addr) (nU cU : Nat) (aV : Option Addr) (nV cV : Nat) (X Y : List Nat) : Prop where
  x : RdB w (.slice aX X.length cX) X
  y : RdB w (.slice aY Y.length cY) Y
  u : RdB w (.slice aU nU cU) (wrR o f X)
  v : RdB w (.slice aV nV cV) (wrD o f X Y)
  tr : o.kind = 4 → f = o.file → 0 ≤ o.a ∧ o.a ≤ X.length
  lx : X.length ≤ 100000000
  ly : Y.length ≤ 100000000
theorem Rnd.later {w w' : World} {o : OpD} {f : Int} {aX : Option Addr} {cX : Nat} {aY : Option Addr} {cY : Nat} {aU : Option Addr} {nU cU : Nat} {aV : Option Addr} {nV cV : Nat} {X Y : List Nat} (h : Rnd w o f aX cX aY cY aU nU cU aV nV cV X Y) (hb : Below w.heap.size w w') : Rnd w' o f aX cX aY cY aU nU cU aV nV cV X Y :=
  ⟨Rd.later h.x hb, Rd.later h.y hb, Rd.later h.u hb, Rd.later h.v hb, h.tr, h.lx, h.ly⟩
theorem below_drewN' {w w' : World} {n : Nat} (h : Below (w.drewN n).heap.size (w.drewN n) w') : Below w.heap.size w w' := ⟨h.os, h.tape, h.output, h.size, h.block⟩
theorem rd_cap {w : World} {a : Option Addr} {n c : Nat} {X : List Nat} (h : RdB w (.slice a n c) X) : X.length ≤ c := by
  obtain ⟨_, _, e, h1, _⟩ := h.len
  injection e with e1 e2 e3
  rw [List.length_map] at h1; omega
theorem handedL_len {o : OpD} (h : o.data.length ≤ 1048576) : (handedL o).length ≤ 100000000 := by
  unfold handedL; split
  · omega
  · split
    · simp
    · rw [List.length_replicate]; omega

theorem step_catV {P : Program} {wr : World} {ops : Array Oper} {o : Oper} {a : Act} {K : Act → World → Prop} {Q : Exit → Act → World → Prop} {E : Prop} (hgd : o.guard = none) (s x : Operand) (t : TypeId)
    (ho : o.op = .call { callee := .builtin .append, args := #[s, x], argTypes := #[t, t] })
    (e : TypeId) (i : TypeInfo) (z : Value) (by' : Nat) (ht : P.underlying t = some (.slice e)) (hi : P.info? e = some i) (hz : i.zero = some z) (hsize : i.size = 1) (hby : i.bytes = by') (hzc : z.cells.size = 1)
    (base : Nat) (v v2 : Value) (vs us : List Value) (hy : ∀ u ∈ us, u.oneCell' = true) (hs : a.eval s = v) (hown : RowV e base wr v vs) (hsz : base ≤ wr.heap.size)
    (hx : a.eval x = v2) (hr : Rd wr v2 us) (hl : vs.length + us.length ≤ maxLen) (hl2 : (vs.length + us.length) * by' ≤ 140737488355328)
    (h : ∀ v' w', RowV e base w' v' (vs ++ us) → wr.grownBy w' v.ownBlock → K (a.put o.dst v') w') :
    if Region.wanted o (yielded ops a.tmps) = true then Oper.wp P o a wr K Q else E := by
  have hw : Region.wanted o (yielded ops a.tmps) = true := by simp [Region.wanted, hgd]
  rw [if_pos hw]
  obtain ⟨ao, cap, rfl, h1, h2, h3⟩ := hr
  have key : ∃ v' w', (Builtin.append_ #[t, t] o.type #[v, .slice ao us.length cap]).run P wr = .ok v' w' ∧ RowV e base w' v' (vs ++ us) ∧ wr.grownBy w' v.ownBlock := by
    cases ao with
    | none =>
      obtain rfl := h2 rfl
      obtain rfl : us = [] := List.eq_nil_of_length_eq_zero (by omega)
      exact ⟨v, wr, run_append_owned_none (P := P) wr base t o.type e i 1 ht hi v vs.length vs hown, by simpa using hown, grownBy_refl _ _⟩
    | some ad =>
      obtain ⟨v', w', r1, r2, r3, _⟩ := run_append_own (P := P) wr base t o.type e i z 1 by' ht hi hz hsize hby hzc (by decide) v vs.length vs hown ad us.length cap us (by simp) (fun j u hj => by
        obtain ⟨hjl, rfl⟩ := List.getElem?_eq_some_iff.1 hj
        obtain ⟨g', o', e1, _, hc⟩ := h3 j hjl
        cases e1
        rw [Addr.add_lit]; exact hc) hy hl hl2 hsz
      exact ⟨v', w', r1, by simpa [RowV] using r2, r3⟩
  obtain ⟨v', w', r1, r2, r3⟩ := key
  unfold Oper.wp execOp
  simp only [ho, resolve, invoke, builtin, Sem.run_bind, Sem.run_pure, Result.andThen_ok, List.map_toArray, List.map_cons, List.map_nil, hs, hx, r1]
  exact h v' w' r2 r3

/-- Where a round's two rows have come to. -/
def RndIs (w : World) (o : OpD) (f : Int) (X Y : List Nat) (v8 v9 : Value) (wx : World) : Prop :=
  ∃ a8 c8 a9 c9, v8 = .slice a8 (wrR o f X).length c8 ∧ v9 = .slice a9 (wrD o f X Y).length c9 ∧ RdB wx (.slice a8 (wrR o f X).length c8) (wrR o f X) ∧ RdB wx (.slice a9 (wrD o f X Y).length c9) (wrD o f X Y) ∧ Below w.heap.size w wx

end Go.Proofs.Ytiefnomldfhhnaa
