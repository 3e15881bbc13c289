/-
  Ours: what stands while a statement over a policy is walked.
-/
import Derived.Test.YtcjmjbhbdojeiaaPolOwn
import Derived.BigQuiet
namespace Go.Proofs.Ytcjmjbhbdojeiaa
open Go.RowKit LedM PolM

structure LS (w : World) (l hs : List Int) (s : Value) (g cap G : Nat) (w' : World) : Prop where
  bb : Below w.heap.size w w'
  p : Blk w.heap.size 24 (polL l s) w'
  q : Blk G 24 (polL l (.slice (some ⟨g, 0, none⟩) hs.length cap)) w'
  h : RowV 3 w.heap.size w' (.slice (some ⟨g, 0, none⟩) (hs.length + 3) cap) (bkL (hs ++ [-7, -8, -9]))
  gl : w.heap.size < g ∧ g < G
theorem LS.later {w w1 w2 : World} {l hs : List Int} {s : Value} {g cap G : Nat} (h : LS w l hs s g cap G w1) (hb : Below w1.heap.size w1 w2) : LS w l hs s g cap G w2 :=
  ⟨below_trans h.bb hb, h.p.below hb, h.q.below hb, h.h.later hb, h.gl⟩
theorem LS.rq {w w1 : World} {l hs : List Int} {s : Value} {g cap G : Nat} (h : LS w l hs s g cap G w1) : Rd w1 (.slice (some ⟨g, 0, none⟩) hs.length cap) (bkL hs) := rd_front (ys := [-7, -8, -9]) h.h.rd
theorem LS.start {w w1 w2 : World} {l hs : List Int} {s : Value} {g cap : Nat} (hl : l.length = 17) (bb : Below w.heap.size w w1) (p : Blk w.heap.size 24 (polL l s) w1)
    (h : RowV 3 (w.heap.size + 1) w1 (.slice (some ⟨g, 0, none⟩) (hs.length + 3) cap) (bkL (hs ++ [-7, -8, -9]))) {o : Obj}
    (nb : Blk w1.heap.size 24 (polZ.take 0 ++ polL l (.slice (some ⟨g, 0, none⟩) hs.length cap) ++ polZ.drop (0 + (polL l (.slice (some ⟨g, 0, none⟩) hs.length cap)).length)) w2)
    (gr : (w1.alloc o).grownBy w2 (some w1.heap.size)) : LS w l hs s g cap w1.heap.size w2 := by
  have D : w1.grownBy w2 (some w1.heap.size) := ⟨gr.os, gr.tape, gr.output, Nat.le_trans (by simp) gr.size, fun k hk hn => (gr.block k (by simp; omega) hn).trans ((below_alloc w1 _).block k hk)⟩
  refine ⟨below_row bb D bb.size, p.grown D (fun e => by injection e with e; have := p.lt; omega), blk_put (by rw [polL_len hl]; exact Nat.le_refl 18) nb, (h.kept D (fun g' e => ?_)).mono (by omega), ?_⟩
  rotate_left
  · exact ⟨h.block_ge rfl, h.block_lt rfl⟩
  have := h.block_lt e
  intro e2
  injection e2 with e2
  omega
theorem LS.cell0 {w w1 : World} {l hs : List Int} {s : Value} {g cap G : Nat} (h : LS w l hs s g cap G w1) : (∃ u, w1.cell? ⟨g, 0, none⟩ = some u) ∧ w1.frozen? ⟨g, 0, none⟩ = false := by
  have hc := fun (k : Nat) (u : Value) (e : (bkL (hs ++ [-7, -8, -9]))[k]? = some u) => World.ownsRow.cells h.h rfl k u e
  refine ⟨?_, ?_⟩
  · have h0 : 0 < (bkL (hs ++ [-7, -8, -9])).length := by rw [bkL_len, List.length_append]; simp
    exact ⟨_, hc 0 _ (List.getElem?_eq_getElem h0)⟩
  · rcases h.h.2 with ⟨h', _⟩ | ⟨g', cap', cur, h', hb, hg, _⟩
    · cases h'
    · injection h' with h' _ _
      injection h' with h'
      injection h' with h'
      subst h'
      simp [World.frozen?, hg]
theorem LS.put0 {w w1 : World} {l hs : List Int} {s : Value} {g cap G : Nat} (h : LS w l hs s g cap G w1) (h0 : 0 < hs.length) : LS w l (hs.set 0 0) s g cap G (w1.setCell ⟨g, 0, none⟩ (.int .i64 0)) := by
  have hh := h.h
  have hl : (bkL (hs ++ [-7, -8, -9])).length = hs.length + 3 := by rw [bkL_len, List.length_append]; rfl
  have hh' : w1.ownsRow w.heap.size 3 1 (.slice (some ⟨g, 0, none⟩) (hs.length + 3) cap) (hs.length + 3) (bkL (hs ++ [-7, -8, -9])) := by rw [← hl]; rw [hl]; exact hl ▸ hh
  obtain ⟨r, gr⟩ := World.ownsRow.stored hh' 0 (.int .i64 0)
  have e : (bkL (hs ++ [-7, -8, -9])).set 0 (.int .i64 0) = bkL (hs.set 0 0 ++ [-7, -8, -9]) := by
    cases hs with
    | nil => simp at h0
    | cons x r => rfl
  rw [e] at r
  refine ⟨below_row h.bb gr (by have := h.gl; omega), h.p.grown gr (fun e => by injection e with e; have := h.gl; omega), ?_, ?_, h.gl⟩
  · rw [List.length_set]; exact h.q.grown gr (fun e => by injection e with e; have := h.gl; omega)
  · rw [List.length_set]
    show World.ownsRow _ _ _ _ _ _ _
    have hl2 : (bkL (hs.set 0 0 ++ [-7, -8, -9])).length = hs.length + 3 := by rw [bkL_len, List.length_append, List.length_set]; rfl
    rw [hl2]; exact r
theorem step_loadG {P : Program} {ops : Array Oper} {rest : List Oper} {op : Oper} {a : Act} {w : World} {Q : Exit → Act → World → Prop} (hw : Region.wanted op (yielded ops a.tmps) = true) (ty : TypeId) (x : Operand) (ho : op.op = .load ty x)
    (G o : Nat) (hx : a.eval x = .pointer (some ⟨G, o, none⟩)) (cs : List Value) (d : TypeDesc) (hc : w.rangeAt G o cs)
    (hu : P.underlying ty = some d) (hd : d.isRow = true) (hi : (P.info? ty).map (·.size) = some cs.length)
    (h : wpList P ops Q rest (a.put op.dst (.agg cs.toArray)) w) : wpList P ops Q (op :: rest) a w :=
  BigFrame.wpList_want hw fun _ hK => wp_load_mid ty x ho G o hx cs d hc hu hd hi (hK _ _ h)
end Go.Proofs.Ytcjmjbhbdojeiaa
