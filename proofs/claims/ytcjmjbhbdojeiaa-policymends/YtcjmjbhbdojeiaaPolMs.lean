/-
  Ours: what stands while a statement over a policy that was made is walked.
-/
import Derived.Test.YtcjmjbhbdojeiaaPolMade
import Derived.Test.YtcjmjbhbdojeiaaPolSt
namespace Go.Proofs.Ytcjmjbhbdojeiaa
open Go.RowKit LedM PolM

theorem ret_dec {p : Prop} [Decidable p] (h : p) : Ending.returned (.bool (decide p)) = .returned (.bool true) := by rw [decide_eq_true h]
structure MS (w : World) (l hs : List Int) (v : Value) (G : Nat) (w' : World) : Prop where
  bb : Below w.heap.size w w'
  q : Blk G 24 (polL l v) w'
  r : Rd w' v (bkL hs)
theorem MS.later {w w1 w2 : World} {l hs : List Int} {v : Value} {G : Nat} (h : MS w l hs v G w1) (hb : Below w1.heap.size w1 w2) : MS w l hs v G w2 :=
  ⟨below_trans h.bb hb, h.q.below hb, h.r.later hb⟩
theorem MS.drewN {w w1 : World} {l hs : List Int} {v : Value} {G : Nat} (h : MS w l hs v G w1) (n : Nat) : MS w l hs v G (w1.drewN n) := ⟨below_drewN h.bb n, h.q.drewN n, h.r.drewN n⟩
theorem MS.start {w w1 w2 : World} {l hs : List Int} {v : Value} (hl : l.length = 17) (bb : Below w.heap.size w w1) (r : Rd w1 v (bkL hs)) {o : Obj}
    (nb : Blk w1.heap.size 24 (polZ.take 0 ++ polL l v ++ polZ.drop (0 + (polL l v).length)) w2) (gr : (w1.alloc o).grownBy w2 (some w1.heap.size)) : MS w l hs v w1.heap.size w2 := by
  have D : w1.grownBy w2 (some w1.heap.size) := ⟨gr.os, gr.tape, gr.output, Nat.le_trans (by simp) gr.size, fun k hk hn => (gr.block k (by simp; omega) hn).trans ((below_alloc w1 _).block k hk)⟩
  exact ⟨below_row bb D bb.size, blk_put (by rw [polL_len hl]; exact Nat.le_refl 18) nb, r.later (below_row (Below.refl _ _) D (Nat.le_refl _))⟩
theorem MS.cell {w w1 : World} {l hs : List Int} {v : Value} {G : Nat} (h : MS w l hs v G w1) (hl : l.length = 17) (k : Nat) (hk : k < 17) : w1.cell? ⟨G, k, none⟩ = some (.int .i64 (l.getD k 0)) := h.q.cell k _ (polL_at hl k hk)
end Go.Proofs.Ytcjmjbhbdojeiaa
