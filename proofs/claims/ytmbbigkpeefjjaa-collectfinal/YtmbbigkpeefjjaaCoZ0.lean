/-
  Ours: blocks of cases and rows of actions, as many as there are (gen_colaw.py: THE SEAT's OWN NUMBERS).
-/
import Derived.Test.YtmbbigkpeefjjaaCoOpn
import Derived.Test.YtmbbigkpeefjjaaCoCnt
namespace Go.Proofs.Ytmbbigkpeefjjaa
open Go.RowKit LedM PolM CoM

/-- A policy's box, the cases bs in blocks, the rows rs, and all that was there. -/
structure ZZ (w : World) (l : List Int) (s : Value) (bs : List (Nat × Cs)) (rs : List (Value × List Int)) (w' : World) : Prop where
  p : Blk w.heap.size 24 (polL l s) w'
  bb : Below w.heap.size w w'
  b : ∀ x ∈ bs, Blk x.1 28 (csL x.2) w'
  r : ∀ y ∈ rs, RowV 3 w.heap.size w' y.1 (bkL y.2)
  gt : ∀ x ∈ bs, w.heap.size < x.1
section
variable {w w1 w2 : World} {l : List Int} {s : Value} {bs : List (Nat × Cs)} {rs : List (Value × List Int)} {G : Nat} {c c' d : Cs} {zs : List Value}
theorem ZZ.later (h : ZZ w l s bs rs w1) (hb : Below w1.heap.size w1 w2) : ZZ w l s bs rs w2 := ⟨h.p.below hb, below_trans h.bb hb, fun x hx => (h.b x hx).below hb, fun y hy => (h.r y hy).later hb, h.gt⟩
theorem ZZ.drew (h : ZZ w l s bs rs w1) : ZZ w l s bs rs w1.drew := ⟨h.p, Below.drew h.bb, h.b, h.r, h.gt⟩
theorem ZZ.lts (h : ZZ w l s bs rs w1) : ∀ x ∈ bs, x.1 < w1.heap.size := fun x hx => (h.b x hx).lt
theorem ZZ.grown (h : ZZ w l s bs rs w1) (hN : Blk G 28 zs w1) (g : w1.grownBy w2 (some G)) (hG : ∀ x ∈ bs, x.1 < G) (hp : w.heap.size < G) : ZZ w l s bs rs w2 :=
  ⟨h.p.grown g (fun e => by injection e with e; omega), below_row h.bb g (by omega), fun x hx => (h.b x hx).grown g (fun e => by injection e with e; have := hG x hx; omega), fun y hy => rowV_blk (h.r y hy) hN g (by decide), h.gt⟩
theorem ZZ.addB (h : ZZ w l s bs rs w1) (nb : Blk G 28 (csL d) w1) (hp : w.heap.size < G) : ZZ w l s ((G, d) :: bs) rs w1 :=
  ⟨h.p, h.bb, fun x hx => by rcases List.mem_cons.1 hx with rfl | hx; (exact nb); exact h.b x hx, h.r, fun x hx => by rcases List.mem_cons.1 hx with rfl | hx; (exact hp); exact h.gt x hx⟩
theorem ZZ.addR {v : Value} {a : List Int} (h : ZZ w l s bs rs w1) (r : RowV 3 w.heap.size w1 v (bkL a)) : ZZ w l s bs ((v, a) :: rs) w1 :=
  ⟨h.p, h.bb, h.b, fun x hx => by rcases List.mem_cons.1 hx with rfl | hx; (exact r); exact h.r x hx, h.gt⟩
theorem ZZ.put (h : ZZ w l s ((G, c) :: bs) rs w1) (nb : Blk G 28 (csL c') w2) (g : w1.grownBy w2 (some G)) (hn : ∀ x ∈ bs, x.1 ≠ G) : ZZ w l s ((G, c') :: bs) rs w2 := by
  have hp := h.gt (G, c) (by simp)
  have hN := h.b (G, c) (by simp)
  refine ⟨h.p.grown g (fun e => by injection e with e; have : w.heap.size < G := hp; omega), below_row h.bb g (Nat.le_of_lt hp), fun x hx => ?_, fun y hy => rowV_blk (h.r y hy) hN g (by decide), fun x hx => ?_⟩
  · rcases List.mem_cons.1 hx with rfl | hx
    · exact nb
    · exact (h.b x (List.mem_cons_of_mem _ hx)).grown g (fun e => by injection e with e; exact hn x hx e.symm)
  · rcases List.mem_cons.1 hx with rfl | hx
    · exact hp
    · exact h.gt x (List.mem_cons_of_mem _ hx)
theorem ZZ.row {v v' : Value} {a a' : List Int} (h : ZZ w l s bs rs w1) (hv : (v, a) ∈ rs) (g : w1.grownBy w2 v.ownBlock) (n : RowV 3 w.heap.size w2 v' (bkL a')) : ZZ w l s bs [(v', a')] w2 := by
  have hr := h.r (v, a) hv
  exact ⟨h.p.grown g (row_ne_blkC hr h.p (by decide)), below_grown h.bb hr (Nat.le_refl _) h.bb.size g, fun x hx => (h.b x hx).grown g (row_ne_blkC hr (h.b x hx) (by decide)), fun y hy => by obtain rfl := List.mem_singleton.1 hy; exact n, h.gt⟩
theorem ZZ.sub {bs' : List (Nat × Cs)} {rs' : List (Value × List Int)} (h : ZZ w l s bs rs w1) (hb : ∀ x ∈ bs', x ∈ bs) (hr : ∀ y ∈ rs', y ∈ rs) : ZZ w l s bs' rs' w1 := ⟨h.p, h.bb, fun x hx => h.b x (hb x hx), fun y hy => h.r y (hr y hy), fun x hx => h.gt x (hb x hx)⟩
end
end Go.Proofs.Ytmbbigkpeefjjaa
