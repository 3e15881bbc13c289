/-
  Ours: what a step leaves of a trio, apart from the step's own memory below m.
-/
import Derived.Test.YtfdehlfhnlgcjaaDoorTqNexts
namespace Go.Proofs.YtfdehlfhnlgcjaaDoor
open Go.RowKit TqM

def TPo (m B R1 R2 : Nat) (vL : Value) (T : Nat → Prop) (N : Nat) (w : World) (G : List (Ky × Int)) (w' : World) : Prop := ∃ T', Tri B R1 R2 vL T' N G w' ∧ (∀ g, T' g → T g ∨ m ≤ g) ∧ Kp T w w'
theorem TPo.kp {m B R1 R2 N : Nat} {vL : Value} {T M : Nat → Prop} {G : List (Ky × Int)} {w w1 w2 : World} (hT : ∀ g, T g → g < w.heap.size) (h : TPo m B R1 R2 vL T N w G w1) (k : Kp M w1 w2) (hM : ∀ g, M g → w.heap.size ≤ g ∧ g < m) : TPo m B R1 R2 vL T N w G w2 := by
  obtain ⟨T', h1, h2, h3⟩ := h
  refine ⟨T', h1.kp k (fun g hg hm => ?_), h2, h3.trans k (fun g hg hm => ?_)⟩
  · have := hM g hm
    rcases h2 g hg with h4 | h4
    · have := hT g h4; omega
    · omega
  · have := hM g hm; omega
theorem TPo.below {m B R1 R2 N : Nat} {vL : Value} {T : Nat → Prop} {G : List (Ky × Int)} {w w1 w2 : World} (hT : ∀ g, T g → g < w.heap.size) (h : TPo m B R1 R2 vL T N w G w1) (b : Below w1.heap.size w1 w2) : TPo m B R1 R2 vL T N w G w2 := h.kp hT (Kp.of_below b (fun _ => False)) (fun _ h => h.elim)
theorem TPo.refl {m B R1 R2 N : Nat} {vL : Value} {T : Nat → Prop} {G : List (Ky × Int)} {w w' : World} (h : Tri B R1 R2 vL T N G w) (b : Below w.heap.size w w') : TPo m B R1 R2 vL T N w G w' := ⟨T, h.below b, fun _ h => .inl h, Kp.of_below b _⟩
theorem TPo.mono {m m' B R1 R2 N N' : Nat} {vL : Value} {T : Nat → Prop} {G : List (Ky × Int)} {w w' : World} (h : TPo m B R1 R2 vL T N w G w') (hm : m' ≤ m) (hN : N ≤ N') : TPo m' B R1 R2 vL T N' w G w' := by
  obtain ⟨T', h1, h2, h3⟩ := h
  exact ⟨T', h1.mono hN, fun g hg => (h2 g hg).imp id (fun h => Nat.le_trans hm h), h3⟩
theorem tri_after_m {m B R1 R2 N N' : Nat} {vL vL' : Value} {T S1 S2 : Nat → Prop} {G G' L1 L1' : List (Ky × Int)} {L2 L2' : List (Ky × ByteArray)} {w w1 w2 w3 : World} (hB : B ≤ w.heap.size) (hw : w.heap.size ≤ m) (hm : m ≤ w1.heap.size) (h : Tri B R1 R2 vL T N G w) (q : TriQ R1 R2 vL S1 S2 T L1 L2 G w)
    (b1 : Below w.heap.size w w1) (r : RowI 0 w1 vL' G') (hv : ∀ g, vL'.ownBlock = some g → ((¬ S1 g ∧ ¬ S2 g) ∧ T g) ∨ m ≤ g)
    (p1 : TQ.QPost R1 S1 w1 L1' w2) (p2 : TS.QPost R2 S2 w2 L2' w3) (e1 : L1'.Perm G') (e2 : L2'.Perm (G'.map wdP)) (sd : Sd G') (i64 : ∀ x ∈ G', LedM.i64 x.2) (len : G'.length ≤ N') : TPo m B R1 R2 vL' T N' w G' w3 := by
  obtain ⟨S1', a1, a2, a3⟩ := p1
  obtain ⟨S2', c1, c2, c3⟩ := p2
  have ls1 : ∀ g, S1 g → g < w.heap.size := q.q1.s
  have ls2 : ∀ g, S2 g → g < w.heap.size := q.q2.s
  have s1 := b1.size
  have s2 := a3.size
  have s3 := c3.size
  have nv : ∀ g, vL'.ownBlock = some g → ¬ S1 g ∧ ¬ S2 g := fun g hg => by
    rcases hv g hg with h1 | h1
    · exact h1.1
    · exact ⟨fun h2 => by have := ls1 g h2; omega, fun h2 => by have := ls2 g h2; omega⟩
  have lv : ∀ g, vL'.ownBlock = some g → g < w1.heap.size := fun g hg => r.lt hg
  have n2 : ∀ g, S1' g → ¬ S2 g := fun g hg h2 => by
    rcases a2 g hg with h1 | h1
    · exact q.ap g h1 h2
    · have := ls2 g h2; omega
  refine ⟨fun g => S1' g ∨ S2' g ∨ vL'.ownBlock = some g, ⟨⟨S1', S2', L1', L2', a1.kp c3 n2, c1, fun g h => .inl h, fun g h => .inr (.inl h), ?_, ?_, e1, e2, ?_⟩, ?_, sd, i64, len⟩, ?_, ?_⟩
  · intro g h1 h2
    rcases c2 g h2 with h3 | h3
    · exact n2 g h1 h3
    · have := a1.s g h1; omega
  · intro g hg
    have h0 := nv g hg
    have h1 := lv g hg
    refine ⟨⟨fun h2 => ?_, fun h2 => ?_⟩, .inr (.inr hg)⟩
    · rcases a2 g h2 with h3 | h3
      · exact h0.1 h3
      · omega
    · rcases c2 g h2 with h3 | h3
      · exact h0.2 h3
      · omega
  · exact (r.same (fun g hg => a3.block g (lv g hg) (nv g hg).1)).same (fun g hg => c3.block g (Nat.lt_of_lt_of_le (lv g hg) s2) (nv g hg).2)
  · intro g hg
    have hB1 : T g → B ≤ g := fun h1 => (h.tw g h1).1
    rcases hg with h1 | h1 | h1
    · refine ⟨?_, Nat.lt_of_lt_of_le (a1.s g h1) s3⟩
      rcases a2 g h1 with h2 | h2
      · exact hB1 (q.t1 g h2)
      · omega
    · refine ⟨?_, c1.s g h1⟩
      rcases c2 g h1 with h2 | h2
      · exact hB1 (q.t2 g h2)
      · omega
    · refine ⟨?_, by have := lv g h1; omega⟩
      rcases hv g h1 with h2 | h2
      · exact hB1 h2.2
      · omega
  · intro g hg
    rcases hg with h1 | h1 | h1
    · exact (a2 g h1).imp (q.t1 g) (fun h => by omega)
    · exact (c2 g h1).imp (q.t2 g) (fun h => by omega)
    · exact (hv g h1).imp And.right id
  · refine ((Kp.of_below b1 T).trans (a3.mono (N := fun g => S1 g) (fun _ _ h => h)) (fun g _ h => q.t1 g h)).trans c3 (fun g _ h => q.t2 g h)
theorem tri_after_q {m B R1 R2 N N' : Nat} {vL vL' : Value} {T S1 S2 : Nat → Prop} {G G' L1 L1' : List (Ky × Int)} {L2 L2' : List (Ky × ByteArray)} {w w1 w2 w3 w4 : World} (hB : B ≤ w.heap.size) (hm : m ≤ w1.heap.size) (h : Tri B R1 R2 vL T N G w) (q : TriQ R1 R2 vL S1 S2 T L1 L2 G w)
    (b1 : Below w.heap.size w w1) (p1 : TQ.QPost R1 S1 w1 L1' w2) (p2 : TS.QPost R2 S2 w2 L2' w3) (b4 : Below w3.heap.size w3 w4) (r : RowI w3.heap.size w4 vL' G') (e1 : L1'.Perm G') (e2 : L2'.Perm (G'.map wdP)) (sd : Sd G') (i64 : ∀ x ∈ G', LedM.i64 x.2) (len : G'.length ≤ N') : TPo m B R1 R2 vL' T N' w G' w4 := by
  obtain ⟨S1', a1, a2, a3⟩ := p1
  obtain ⟨S2', c1, c2, c3⟩ := p2
  have ls1 : ∀ g, S1 g → g < w.heap.size := q.q1.s
  have ls2 : ∀ g, S2 g → g < w.heap.size := q.q2.s
  have s1 := b1.size
  have s2 := a3.size
  have s3 := c3.size
  have s4 := b4.size
  have n2 : ∀ g, S1' g → ¬ S2 g := fun g hg h2 => by
    rcases a2 g hg with h1 | h1
    · exact q.ap g h1 h2
    · have := ls2 g h2; omega
  have z1 := a1.s
  have z2 := c1.s
  refine ⟨fun g => S1' g ∨ S2' g ∨ vL'.ownBlock = some g, ⟨⟨S1', S2', L1', L2', (a1.kp c3 n2).below b4, c1.below b4, fun g h => .inl h, fun g h => .inr (.inl h), ?_, ?_, e1, e2, r.mono (Nat.zero_le _)⟩, ?_, sd, i64, len⟩, ?_, ?_⟩
  · intro g h1 h2
    rcases c2 g h2 with h3 | h3
    · exact n2 g h1 h3
    · have := a1.s g h1; omega
  · intro g hg
    have h1 := r.ge hg
    refine ⟨⟨fun h2 => ?_, fun h2 => ?_⟩, .inr (.inr hg)⟩
    · have := z1 g h2; omega
    · have := z2 g h2; omega
  · intro g hg
    have hB1 : T g → B ≤ g := fun h1 => (h.tw g h1).1
    rcases hg with h1 | h1 | h1
    · refine ⟨?_, by have := z1 g h1; omega⟩
      rcases a2 g h1 with h2 | h2
      · exact hB1 (q.t1 g h2)
      · omega
    · refine ⟨?_, by have := z2 g h1; omega⟩
      rcases c2 g h1 with h2 | h2
      · exact hB1 (q.t2 g h2)
      · omega
    · have := r.ge h1
      exact ⟨by omega, r.lt h1⟩
  · intro g hg
    rcases hg with h1 | h1 | h1
    · exact (a2 g h1).imp (q.t1 g) (fun h => by omega)
    · exact (c2 g h1).imp (q.t2 g) (fun h => by omega)
    · have := r.ge h1
      exact .inr (by omega)
  · exact (((Kp.of_below b1 T).trans (a3.mono (N := fun g => S1 g) (fun _ _ h => h)) (fun g _ h => q.t1 g h)).trans c3 (fun g _ h => q.t2 g h)).trans (Kp.of_below b4 (fun _ => False)) (fun _ _ h => h.elim)
end Go.Proofs.YtfdehlfhnlgcjaaDoor
