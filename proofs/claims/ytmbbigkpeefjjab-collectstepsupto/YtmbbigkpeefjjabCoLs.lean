/-
  Ours: events as they read; what stands while a statement over a policy, a case and events is walked.
-/
import Derived.Test.YtmbbigkpeefjjabCoOwn
import Derived.Test.YtmbbigkpeefjjabCoInv
import Derived.LoopTactic
namespace Go.Proofs.Ytmbbigkpeefjjab
open Go.RowKit LedM PolM CoM

namespace CoM
def ez : Ev := ⟨0, 0, 0, 0⟩
def eN (es : List Ev) (i : Nat) : Ev := es.getD i ez
end CoM
/-- The slice value v reads as the events es. -/
def RdV (w : World) (v : Value) (es : List Ev) : Prop :=
  ∃ ao cap, v = .slice ao es.length cap ∧ es.length ≤ cap ∧ (ao = none → cap = 0) ∧ ∀ i, i < es.length → ∃ g o, ao = some ⟨g, o, none⟩ ∧ g < w.heap.size ∧ w.rangeAt g (o + i * 4) (evL (eN es i))
theorem range_laterC {w w' : World} {g o : Nat} {cs : List Value} (h : w.rangeAt g o cs) (hg : g < w.heap.size) (hb : Below w.heap.size w w') : w'.rangeAt g o cs := fun j v hv => (hb.cell (p := ⟨g, o + j, none⟩) hg).trans (h j v hv)
theorem RdV.later {w w' : World} {v : Value} {es : List Ev} (h : RdV w v es) (hb : Below w.heap.size w w') : RdV w' v es := by
  obtain ⟨ao, cap, rfl, h1, h2, h3⟩ := h
  refine ⟨ao, cap, rfl, h1, h2, fun i hi => ?_⟩
  obtain ⟨g, o, e, lt, r⟩ := h3 i hi
  exact ⟨g, o, e, Nat.lt_of_lt_of_le lt hb.size, range_laterC r lt hb⟩

/-- A load by the row behind a guard that wants it. -/
theorem step_loadG {P : Program} {ops : Array Oper} {rest : List Oper} {op : Oper} {a : Act} {w : World} {Q : Exit → Act → World → Prop} (hw : Region.wanted op (yielded ops a.tmps) = true) (ty : TypeId) (x : Operand) (ho : op.op = .load ty x)
    (G o : Nat) (hx : a.eval x = .pointer (some ⟨G, o, none⟩)) (cs : List Value) (d : TypeDesc) (hc : w.rangeAt G o cs)
    (hu : P.underlying ty = some d) (hd : d.isRow = true) (hi : (P.info? ty).map (·.size) = some cs.length)
    (h : wpList P ops Q rest (a.put op.dst (.agg cs.toArray)) w) : wpList P ops Q (op :: rest) a w :=
  BigFrame.wpList_want hw fun _ hK => wp_load_mid ty x ho G o hx cs d hc hu hd hi (hK _ _ h)
theorem at_loadG {P : Program} {ops : Array Oper} {rest : List Oper} {a : Act} {w : World} {Q : Exit → Act → World → Prop} {dst : Option Tmp} (ty : TypeId) {t : TypeId} {x : Operand} {pos : String} {af : Array Edge} {gd : Nat × Bool}
    (h : wpList P ops Q ({ dst := dst, op := .load ty x, type := t, pos := pos, after := af, guard := some gd } :: rest) a w) : wpList P ops Q ({ dst := dst, op := .load ty x, type := t, pos := pos, after := af, guard := some gd } :: rest) a w := h
theorem at_loadT {P : Program} {ops : Array Oper} {rest : List Oper} {a : Act} {w : World} {Q : Exit → Act → World → Prop} {dst : Option Tmp} (ty : TypeId) {t : TypeId} {x : Operand} {pos : String} {af : Array Edge}
    (h : wpList P ops Q ({ dst := dst, op := .load ty x, type := t, pos := pos, after := af, guard := none } :: rest) a w) : wpList P ops Q ({ dst := dst, op := .load ty x, type := t, pos := pos, after := af, guard := none } :: rest) a w := h
/-- A policy's box, a case's, and all that was there. -/
structure LS (w : World) (l : List Int) (s : Value) (c : Cs) (C : Nat) (w' : World) : Prop where
  p : Blk w.heap.size 24 (polL l s) w'
  c : Blk C 29 (csL c) w'
  bb : Below w.heap.size w w'
  ge : w.heap.size < C
section
variable {w : World} {l : List Int} {s : Value} {c : Cs} {C : Nat} {w1 w2 : World}
theorem LS.later (h : LS w l s c C w1) (hb : Below w1.heap.size w1 w2) : LS w l s c C w2 := ⟨h.p.below hb, h.c.below hb, below_trans h.bb hb, h.ge⟩
theorem LS.drew (h : LS w l s c C w1) : LS w l s c C w1.drew := ⟨h.p, h.c, Below.drew h.bb, h.ge⟩
theorem LS.drewN (h : LS w l s c C w1) (n : Nat) : LS w l s c C (w1.drewN n) := ⟨h.p, h.c, below_drewN h.bb n, h.ge⟩
theorem LS.grown {G : Nat} (h : LS w l s c C w1) (g : w1.grownBy w2 (some G)) (hG : C < G) : LS w l s c C w2 :=
  ⟨h.p.grown g (fun e => by injection e with e; have := h.ge; omega), h.c.grown g (fun e => by injection e with e; omega), below_row h.bb g (by have := h.ge; omega), h.ge⟩
theorem LS.cs (h : LS w l s c C w1) (k : Nat) (u : Value) (hu : (csL c)[k]? = some u) : w1.cell? ⟨C, k, none⟩ = some u := h.c.cell k u hu
theorem LS.pol (h : LS w l s c C w1) (hl : l.length = 17) (k : Nat) (hk : k < 17) : w1.cell? ⟨w.heap.size, k, none⟩ = some (.int .i64 (l.getD k 0)) := h.p.cell k _ (polL_at hl k hk)
/-- The case is stored anew. -/
theorem LS.put {c' : Cs} (h : LS w l s c C w1) (nb : Blk C 29 (csL c') w2) (g : w1.grownBy w2 (some C)) : LS w l s c' C w2 :=
  ⟨h.p.grown g (fun e => by injection e with e; have := h.ge; omega), nb, below_row h.bb g (by have := h.ge; omega), h.ge⟩
/-- Behind 'd, acts, e := Step(own(p), c, event)'. -/
structure SA (w : World) (l : List Int) (s : Value) (c : Cs) (C G : Nat) (a : An) (v : Value) (w' : World) : Prop where
  ls : LS w l s c C w'
  d : Blk G 29 (csL a.2.1) w'
  lt : C < G
  r : RowV 3 w.heap.size w' v (bkL a.2.2)
variable {G : Nat} {a : An} {v : Value}
theorem SA.later (h : SA w l s c C G a v w1) (hb : Below w1.heap.size w1 w2) : SA w l s c C G a v w2 := ⟨h.ls.later hb, h.d.below hb, h.lt, h.r.later hb⟩
theorem SA.drewN (h : SA w l s c C G a v w1) (n : Nat) : SA w l s c C G a v (w1.drewN n) := ⟨h.ls.drewN n, h.d, h.lt, h.r⟩
end
theorem rowV_blk {e T : TypeId} {base G : Nat} {w w' : World} {v : Value} {vs cs : List Value} (h : RowV e base w v vs) (hb : Blk G T cs w) (g : w.grownBy w' (some G)) (hne : e ≠ T) : RowV e base w' v vs :=
  h.kept g (fun x q y => row_ne_blkC h hb hne (by rw [q, y]))
end Go.Proofs.Ytmbbigkpeefjjab
