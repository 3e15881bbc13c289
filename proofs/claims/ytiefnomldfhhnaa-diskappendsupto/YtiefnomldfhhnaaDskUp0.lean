/-
  Ours: UpTo's start.
-/
import Derived.Test.YtiefnomldfhhnaaDskU5
namespace Go.Proofs.Ytiefnomldfhhnaa
open Go.RowKit

theorem range6 {w : World} {g o : Nat} {c0 c1 c2 c3 c4 c5 : Value} (h0 : w.cell? ⟨g, o, none⟩ = some c0) (h1 : w.cell? ⟨g, o + 1, none⟩ = some c1) (h2 : w.cell? ⟨g, o + 2, none⟩ = some c2) (h3 : w.cell? ⟨g, o + 3, none⟩ = some c3) (h4 : w.cell? ⟨g, o + 4, none⟩ = some c4) (h5 : w.cell? ⟨g, o + 5, none⟩ = some c5) : w.rangeAt g o [c0, c1, c2, c3, c4, c5] := fun j v hj => by
  have hl : j < 6 := (List.getElem?_eq_some_iff.1 hj).1
  have hc : j = 0 ∨ j = 1 ∨ j = 2 ∨ j = 3 ∨ j = 4 ∨ j = 5 := by omega
  rcases hc with rfl | rfl | rfl | rfl | rfl | rfl <;> (simp at hj; subst hj; assumption)
/-- What lies apart from all that is held may change. -/
theorem U5.kpA {w0 w w' : World} {Q1 Q2 : Nat} {p1 p2 : PD} {F M : Nat → Prop} {l : List He} {va : Sl} (h : U5 w0 Q1 Q2 p1 p2 F l va w) (k : Kp M w w') (hM : ∀ g, M g → w0.heap.size ≤ g ∧ (¬ p1.B g ∧ ¬ p2.B g ∧ g ≠ Q1 ∧ g ≠ Q2) ∧ ¬ (F g ∨ va.v.ownBlock = some g)) : U5 w0 Q1 Q2 p1 p2 F l va w' :=
  ⟨PD.kp h.a k (fun g hg hm => (hM g hm).2.1.1 hg) (fun g hm => (hM g hm).1), PD.kp h.b k (fun g hg hm => (hM g hm).2.1.2.1 hg) (fun g hm => (hM g hm).1), h.q1.kp k (fun hm => (hM _ hm).2.1.2.2.1 rfl), h.q2.kp k (fun hm => (hM _ hm).2.1.2.2.2 rfl),
    h.h.kp k (fun g hg hm => (hM g hm).2.2 (.inl hg)) (fun g hg hm => (hM g hm).2.2 (.inr hg)), h.ab, h.fa, fun g hg => ⟨(h.fw g hg).1, Nat.lt_of_lt_of_le (h.fw g hg).2 k.size⟩, h.na, h.nb, h.ne, h.l1, h.l2⟩
/-- A pair that has just been made. -/
def NewP (w0 wb : World) (Q : Nat) (p : PD) (w : World) : Prop := p.In w0 w ∧ (∀ g, p.B g → wb.heap.size ≤ g) ∧ Blk Q 37 p.V w ∧ wb.heap.size ≤ Q ∧ ¬ p.B Q ∧ p.t.wr = 0
theorem NewP.mk {w0 wb w1 w2 w3 : World} {R Q : Nat} {S : Nat → Prop} {fs ss : List Nat} {y0 y1 : Sl} (hb : Below w0.heap.size w0 wb) (d : DkAt R S (Dk.load fs ss) w1) (nS : ∀ g, S g → wb.heap.size ≤ g) (b1 : Below wb.heap.size wb w1) (rn : RfNew (fun _ => False) w1 (Dk.load fs ss) y0 y1 Sl.z Sl.z Sl.z 0 w2) (eQ : w2.heap.size = Q) (b3 : Below w2.heap.size w2 w3) (q : Blk Q 37 (PV R y0 y1 Sl.z Sl.z Sl.z 0 false 0) w3) :
    ∃ T, NewP w0 wb Q ⟨R, S, T, Dk.load fs ss, y0, y1, Sl.z, Sl.z, Sl.z, 0⟩ w3 := by
  obtain ⟨T, v, nT, b2⟩ := rn
  have s0 := hb.size
  have s1 := b1.size
  have s2 := b2.size
  have nT' : ∀ g, T g → w1.heap.size ≤ g := fun g hg => (nT g hg).elim (fun h => h.elim) id
  refine ⟨T, ⟨⟨⟨(d.below b2).below b3, fun g hg => by have := nS g hg; omega, below_trans (below_trans (below_trans hb b1) b2) b3⟩, v.below b3, fun g hg hs => ?_, fun g hg => by have := nT' g hg; omega⟩, fun g hg => ?_, q, by omega, fun hg => ?_, rfl⟩⟩
  · have := d.size g hs; have := nT' g hg; omega
  · rcases hg with h | h
    · exact nS g h
    · have := nT' g h; omega
  · rcases hg with h | h
    · have := d.size _ h; omega
    · have := v.s _ h; omega
theorem U5.start {w0 wb w3 w6 : World} {Q1 Q2 : Nat} {p1 p2 : PD} (hb : Below w0.heap.size w0 wb) (h1 : NewP w0 wb Q1 p1 w3) (b6 : Below w3.heap.size w3 w6) (h2 : NewP w0 w3 Q2 p2 w6) : U5 w0 Q1 Q2 p1 p2 (fun _ => False) [] Sl.z w6 ∧ ∀ g, g < wb.heap.size → ¬ p1.B g ∧ ¬ p2.B g ∧ g ≠ Q1 ∧ g ≠ Q2 := by
  obtain ⟨i1, n1, q1, l1, a1, _⟩ := h1
  obtain ⟨i2, n2, q2, l2, a2, _⟩ := h2
  have k1 := q1.lt
  have z0 := hb.size
  have nf : ∀ g, ¬ ((fun _ : Nat => False) g ∨ Sl.z.v.ownBlock = some g) := fun g hg => by
    rcases hg with h | h
    · exact h
    · cases h
  refine ⟨⟨i1.below b6, i2, q1.below b6, q2, HeldV.nil _, fun g e1 e2 => ?_, fun g hg => absurd hg (nf g), fun g hg => absurd hg (nf g), ⟨a1, fun e => ?_⟩, ⟨fun e => ?_, a2⟩, by omega, by omega, by omega⟩, fun g hg => ⟨fun e => ?_, fun e => ?_, by omega, by omega⟩⟩
  · have := PD.lt i1 e1; have := n2 g e2; omega
  · have := PD.lt i1 e; omega
  · have := n2 _ e; omega
  · have := n1 g e; omega
  · have := n2 g e; omega
end Go.Proofs.Ytiefnomldfhhnaa
