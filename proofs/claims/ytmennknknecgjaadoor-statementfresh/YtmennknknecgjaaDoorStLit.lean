/-
  Ours: a slice literal of one struct (out of WirStT).
-/
import Derived.Test.YtmennknknecgjaaDoorWirOwn
import Derived.Great.BuildSlice
namespace Go.Proofs.YtmennknknecgjaaDoor
open Go.RowKit

theorem fill_one {K : Nat} (hK : 0 < K) {C : List Value} (hC : C.length = K) {cells : Array Value} (hs : cells.size = K) : Instr.fill (fun i => some (i * K, K)) cells [(0, .agg C.toArray)] = some C.toArray := by
  obtain ⟨r, h1, h2, h3⟩ := Great.fill_dense hK [.agg C.toArray] 0 cells (fun v hv => by simp at hv; subst hv; simpa [Value.cells] using hC) (by simp [hs])
  have e : r = C.toArray := by
    apply Array.ext_getElem?
    intro k
    rw [h3 k]
    by_cases hk : k < K
    · rw [if_pos (by simp; exact hk)]
      have : k / K = 0 := Nat.div_eq_of_lt hk
      simp [this, Nat.mod_eq_of_lt hk, Value.cells]
    · rw [if_neg (by simp; omega)]
      rw [Array.getElem?_eq_none (by omega)]
      simp; omega
  rw [e] at h1
  exact h1
section
variable {P : Program}
/-- The next operation is a slice literal. -/
theorem at_slice {ops : Array Oper} {rest : List Oper} {a : Act} {w : World} {Q : Exit → Act → World → Prop} {dst : Option Tmp} {ty t : TypeId} {n : Nat} {ps : Array (Nat × Operand)} {pos : String} {af : Array Edge}
    (h : wpList P ops Q ({ dst := dst, op := .buildSlice ty n ps, type := t, pos := pos, after := af, guard := none } :: rest) a w) : wpList P ops Q ({ dst := dst, op := .buildSlice ty n ps, type := t, pos := pos, after := af, guard := none } :: rest) a w := h
/-- A slice of one struct. -/
theorem step_slice1 {ops : Array Oper} {rest : List Oper} {o : Oper} {a : Act} {w : World} {Q : Exit → Act → World → Prop} (hg : o.guard = none) (t e : TypeId) (x : Operand) (ho : o.op = .buildSlice t 1 #[(0, x)])
    (ie : TypeInfo) (z : Value) (K : Nat) (hK : 0 < K) (hu : P.underlying t = some (.slice e)) (hie : P.info? e = some ie) (hz : ie.zero = some z) (hsize : ie.size = K) (hsm : K ≤ 1000)
    (C : List Value) (hC : C.length = K) (hx : a.eval x = .agg C.toArray)
    (h : wpList P ops Q rest (a.put o.dst (.slice (some ⟨w.heap.size, 0, none⟩) 1 1)) (w.alloc (.cells C.toArray e))) : wpList P ops Q (o :: rest) a w := by
  refine wpList_buildSlice hg t e 1 _ ho C.toArray ie z hu hie hz (by rw [hsize]; omega) (by rw [hsize]; omega) ?_ h
  simp only [List.map_toArray, List.map_cons, List.map_nil, hx, hsize]
  exact fill_one hK hC (by simp)
end
end Go.Proofs.YtmennknknecgjaaDoor
