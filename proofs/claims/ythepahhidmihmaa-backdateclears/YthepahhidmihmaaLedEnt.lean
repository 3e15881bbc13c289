/-
  Ours: entries as they read; the first that is bad.
-/
import Derived.Test.YthepahhidmihmaaLedOk
namespace Go.Proofs.Ythepahhidmihmaa
open Go.RowKit LedM

namespace LedM
def eN (es : List Ent) (i : Nat) : Ent := es.getD i ⟨0, 0, 0⟩
theorem eN_at {es : List Ent} {i : Nat} (h : i < es.length) : eN es i = es[i] := by simp [eN, List.getD_eq_getElem?_getD, List.getElem?_eq_getElem h]
theorem drop_eN {es : List Ent} {i : Nat} (h : i < es.length) : es.drop i = eN es i :: es.drop (i + 1) := by
  rw [eN_at h]; exact List.drop_eq_getElem_cons h
theorem take_eN {es : List Ent} {i : Nat} (h : i < es.length) : es.take (i + 1) = es.take i ++ [eN es i] := by
  rw [eN_at h, List.take_add_one, List.getElem?_eq_getElem h]; rfl
end LedM
/-- A load by the row behind a guard that wants it. -/
theorem step_loadG {P : Program} {ops : Array Oper} {rest : List Oper} {op : Oper} {a : Act} {w : World} {Q : Exit → Act → World → Prop} (hw : Region.wanted op (yielded ops a.tmps) = true) (ty : TypeId) (x : Operand) (ho : op.op = .load ty x)
    (G o : Nat) (hx : a.eval x = .pointer (some ⟨G, o, none⟩)) (cs : List Value) (d : TypeDesc) (hc : w.rangeAt G o cs)
    (hu : P.underlying ty = some d) (hd : d.isRow = true) (hi : (P.info? ty).map (·.size) = some cs.length)
    (h : wpList P ops Q rest (a.put op.dst (.agg cs.toArray)) w) : wpList P ops Q (op :: rest) a w :=
  BigFrame.wpList_want hw fun _ hK => wp_load_mid ty x ho G o hx cs d hc hu hd hi (hK _ _ h)
/-- The slice value v reads as the entries es. -/
def RdE (w : World) (v : Value) (es : List Ent) : Prop :=
  ∃ ao cap, v = .slice ao es.length cap ∧ es.length ≤ cap ∧ (ao = none → cap = 0) ∧ ∀ i, i < es.length → ∃ g o, ao = some ⟨g, o, none⟩ ∧ g < w.heap.size ∧ w.rangeAt g (o + i * 3) (entL (eN es i))
theorem range_later {w w' : World} {g o : Nat} {cs : List Value} (h : w.rangeAt g o cs) (hg : g < w.heap.size) (hb : Below w.heap.size w w') : w'.rangeAt g o cs := fun j v hv => (hb.cell (p := ⟨g, o + j, none⟩) hg).trans (h j v hv)
theorem RdE.later {w w' : World} {v : Value} {es : List Ent} (h : RdE w v es) (hb : Below w.heap.size w w') : RdE w' v es := by
  obtain ⟨ao, cap, rfl, h1, h2, h3⟩ := h
  refine ⟨ao, cap, rfl, h1, h2, fun i hi => ?_⟩
  obtain ⟨g, o, e, lt, r⟩ := h3 i hi
  exact ⟨g, o, e, Nat.lt_of_lt_of_le lt hb.size, range_later r lt hb⟩
theorem infoE (e : Ent) : (Try.prog.info? 30).map (·.size) = some (entL e).length := by show _ = some 3; kernel_rfl
theorem oneE (e : Ent) : ∀ v ∈ entL e, v.oneCell' = true := fun v hv => by
  simp [entL] at hv
  rcases hv with rfl | rfl | rfl <;> rfl

end Go.Proofs.Ythepahhidmihmaa
