/-
  Ours: two trios beside one another.
-/
import Derived.Test.YtfdehlfhnlgcjaaDoorTqBeg
import Derived.Test.YtfdehlfhnlgcjaaDoorTqPopA
import Derived.Test.YtfdehlfhnlgcjaaDoorTqOp
namespace Go.Proofs.YtfdehlfhnlgcjaaDoor
open Go.RowKit TqM

structure UpT (w0 : World) (Q1 Q2 R1 R2 R3 R4 : Nat) (va vb : Value) (Ta Tb : Nat → Prop) (Ga Gb : List (Ky × Int)) (N : Nat) (w : World) : Prop where
  b : Below w0.heap.size w0 w
  q1 : Blk Q1 33 (trL R1 R2 va) w
  q2 : Blk Q2 33 (trL R3 R4 vb) w
  t1 : Tri w0.heap.size R1 R2 va Ta N Ga w
  t2 : Tri w0.heap.size R3 R4 vb Tb N Gb w
  ap : ∀ g, Ta g → ¬ Tb g
  n1 : ¬ Ta Q1 ∧ ¬ Ta Q2
  n2 : ¬ Tb Q1 ∧ ¬ Tb Q2
  ne : Q1 ≠ Q2
  l1 : w0.heap.size ≤ Q1
  l2 : w0.heap.size ≤ Q2
theorem UpT.swap {w0 w : World} {Q1 Q2 R1 R2 R3 R4 N : Nat} {va vb : Value} {Ta Tb : Nat → Prop} {Ga Gb : List (Ky × Int)} (h : UpT w0 Q1 Q2 R1 R2 R3 R4 va vb Ta Tb Ga Gb N w) : UpT w0 Q2 Q1 R3 R4 R1 R2 vb va Tb Ta Gb Ga N w :=
  ⟨h.b, h.q2, h.q1, h.t2, h.t1, fun g h1 h2 => h.ap g h2 h1, ⟨h.n2.2, h.n2.1⟩, ⟨h.n1.2, h.n1.1⟩, h.ne.symm, h.l2, h.l1⟩
theorem UpT.below {w0 w w' : World} {Q1 Q2 R1 R2 R3 R4 N : Nat} {va vb : Value} {Ta Tb : Nat → Prop} {Ga Gb : List (Ky × Int)} (h : UpT w0 Q1 Q2 R1 R2 R3 R4 va vb Ta Tb Ga Gb N w) (b : Below w.heap.size w w') : UpT w0 Q1 Q2 R1 R2 R3 R4 va vb Ta Tb Ga Gb N w' :=
  ⟨below_trans h.b b, h.q1.below b, h.q2.below b, h.t1.below b, h.t2.below b, h.ap, h.n1, h.n2, h.ne, h.l1, h.l2⟩
theorem UpT.start {w0 w1 wa w2 w3 : World} {Q1 Q2 R1 R2 R3 R4 : Nat} {Ta Tb : Nat → Prop} (b1 : Below w0.heap.size w0 w1) (t1 : Tri w0.heap.size R1 R2 (.slice none 0 0) Ta 0 [] w1) (e1 : w1.heap.size = Q1) (q1 : Blk Q1 33 (trL R1 R2 (.slice none 0 0)) wa) (ba : Below w1.heap.size w1 wa) (t2 : Tri w0.heap.size R3 R4 (.slice none 0 0) Tb 0 [] w2) (m2 : ∀ g, Tb g → wa.heap.size ≤ g) (b2 : Below wa.heap.size wa w2) (e2 : w2.heap.size = Q2) (q2 : Blk Q2 33 (trL R3 R4 (.slice none 0 0)) w3) (b3 : Below w2.heap.size w2 w3) : UpT w0 Q1 Q2 R1 R2 R3 R4 (.slice none 0 0) (.slice none 0 0) Ta Tb [] [] 0 w3 := by
  have s0 := b1.size
  have sa := ba.size
  have s2 := b2.size
  have s3 := b3.size
  have l1 := q1.lt
  have l2 := q2.lt
  have za : ∀ g, Ta g → g < w1.heap.size := fun g h => (t1.tw g h).2
  have zb : ∀ g, Tb g → g < w2.heap.size := fun g h => (t2.tw g h).2
  refine ⟨below_trans (below_trans (below_trans b1 ba) b2) b3, (q1.below b2).below b3, q2, (t1.below (below_trans ba b2)).below b3, t2.below b3, fun g h1 h2 => ?_, ⟨fun h => ?_, fun h => ?_⟩, ⟨fun h => ?_, fun h => ?_⟩, by omega, by omega, by omega⟩
  · have := za g h1; have := m2 g h2; omega
  · have := za _ h; omega
  · have := za _ h; omega
  · have := m2 _ h; omega
  · have := zb _ h; omega
/-- The first has made a step. -/
theorem UpT.one {w0 w w' w2 : World} {Q1 Q2 R1 R2 R3 R4 N : Nat} {va va' vb : Value} {Ta Tb : Nat → Prop} {Ga Gb Ga' : List (Ky × Int)} (h : UpT w0 Q1 Q2 R1 R2 R3 R4 va vb Ta Tb Ga Gb N w) (p : TPo (w.heap.size + 3) w0.heap.size R1 R2 va' Ta (N + 1) w Ga' w') (q : Blk Q1 33 (trL R1 R2 va') w2) (g2 : w'.grownBy w2 (some Q1)) : ∃ Ta', UpT w0 Q1 Q2 R1 R2 R3 R4 va' vb Ta' Tb Ga' Gb (N + 1) w2 := by
  obtain ⟨T', h1, h2, h3⟩ := p
  have k2 : Kp (fun g => some Q1 = some g) w' w2 := Kp.of_grown g2
  have z2 := h.t2.tw
  have lq1 := h.q1.lt
  have lq2 := h.q2.lt
  have c1 : ¬ T' Q1 := fun e => by
    rcases h2 _ e with e | e
    · exact h.n1.1 e
    · omega
  have c2 : ¬ T' Q2 := fun e => by
    rcases h2 _ e with e | e
    · exact h.n1.2 e
    · omega
  have b0 : Below w0.heap.size w w' := h3.belowB (fun g hg => (h.t1.tw g hg).1) h.b.size
  have b1 : Below w0.heap.size w' w2 := Kp.belowB (T := fun g => some Q1 = some g) k2 (fun g hg => by cases hg; exact h.l1) (Nat.le_trans h.b.size h3.size)
  have bt : Below w0.heap.size w0 w2 := ⟨b1.os.trans (b0.os.trans h.b.os), b1.tape.trans (b0.tape.trans h.b.tape), b1.output.trans (b0.output.trans h.b.output), Nat.le_trans h.b.size (Nat.le_trans b0.size b1.size), fun i hi => (b1.block i hi).trans ((b0.block i hi).trans (h.b.block i hi))⟩
  have ap' : ∀ g, T' g → ¬ Tb g := fun g e1 e2 => by
    rcases h2 g e1 with e | e
    · exact h.ap g e e2
    · have := (z2 g e2).2; omega
  refine ⟨T', bt, q, (h.q2.kp h3 h.n1.2).kp k2 (fun e => by cases e; exact h.ne rfl), h1.kp k2 (fun g hg e => by cases e; exact c1 hg), ((h.t2.kp h3 (fun g hg e => h.ap g e hg)).kp k2 (fun g hg e => by cases e; exact h.n2.1 hg)).mono (Nat.le_succ N), ap', ⟨c1, c2⟩, h.n2, h.ne, h.l1, h.l2⟩
theorem Tri.shape {B R1 R2 N : Nat} {vL : Value} {T : Nat → Prop} {G : List (Ky × Int)} {w : World} (h : Tri B R1 R2 vL T N G w) : ∃ a m c, vL = .slice a m c := by
  obtain ⟨S1, S2, L1, L2, q⟩ := h.q
  exact q.row.shape
theorem TPo.shape {m B R1 R2 N : Nat} {vL : Value} {T : Nat → Prop} {G : List (Ky × Int)} {w w' : World} (h : TPo m B R1 R2 vL T N w G w') : ∃ a m c, vL = .slice a m c := by
  obtain ⟨T', h1, _⟩ := h
  exact h1.shape
end Go.Proofs.YtfdehlfhnlgcjaaDoor
