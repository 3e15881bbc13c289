/-
  Ours: blocks of one's own that are kept.
-/
import Derived.Test.YtacdnigeboeleaaDoorLedOwn
namespace Go.Proofs.YtacdnigeboeleaaDoor
open Go.RowKit

structure KB (w : World) (bs : List (Nat × TypeId × List Value)) (w' : World) : Prop where
  bb : Below w.heap.size w w'
  bk : ∀ q ∈ bs, w.heap.size ≤ q.1 ∧ Blk q.1 q.2.1 q.2.2 w'
theorem KB.at {w w1 : World} {bs : List (Nat × TypeId × List Value)} (h : KB w bs w1) (k : Nat) {q : Nat × TypeId × List Value} (hq : bs[k]? = some q) : Blk q.1 q.2.1 q.2.2 w1 := (h.bk q (List.mem_of_getElem? hq)).2
theorem KB.call {w w1 w2 : World} {bs : List (Nat × TypeId × List Value)} (h : KB w bs w1) (b : Below w1.heap.size w1 w2) : KB w bs w2 := ⟨below_trans h.bb b, fun q hq => ⟨(h.bk q hq).1, (h.bk q hq).2.below b⟩⟩
theorem KB.drewN {w w1 : World} {bs : List (Nat × TypeId × List Value)} (h : KB w bs w1) (n : Nat) : KB w bs (w1.drewN n) := ⟨below_drewN h.bb n, fun q hq => ⟨(h.bk q hq).1, (h.bk q hq).2.drewN n⟩⟩
theorem KB.start (w : World) : KB w [] w := ⟨Below.refl _ _, fun q hq => by cases hq⟩
theorem KB.new {w w1 : World} {bs : List (Nat × TypeId × List Value)} (h : KB w bs w1) (T : TypeId) (cs : List Value) : KB w ((w1.heap.size, T, cs) :: bs) (w1.alloc (.cells cs.toArray T)) := ⟨(h.call (below_alloc w1 _)).bb, fun q hq => by
  rcases List.mem_cons.1 hq with rfl | hq
  · exact ⟨h.bb.size, Blk.new T cs w1⟩
  · exact (h.call (below_alloc w1 _)).bk q hq⟩
theorem KB.put {w w1 w2 : World} {bs : List (Nat × TypeId × List Value)} (h : KB w bs w1) (o : Obj) {T : TypeId} {cs : List Value} (nb : Blk w1.heap.size T cs w2) (g : (w1.alloc o).grownBy w2 (some w1.heap.size)) : KB w ((w1.heap.size, T, cs) :: bs) w2 := by
  have h1 := h.call (below_alloc w1 o)
  refine ⟨h1.bb.grown g h1.bb.size (fun q e => by cases e; exact h.bb.size), fun q hq => ?_⟩
  rcases List.mem_cons.1 hq with rfl | hq
  · exact ⟨h.bb.size, nb⟩
  · exact ⟨(h.bk q hq).1, (h1.bk q hq).2.grown g (by have := (h.bk q hq).2.lt; simp; omega)⟩
end Go.Proofs.YtacdnigeboeleaaDoor
