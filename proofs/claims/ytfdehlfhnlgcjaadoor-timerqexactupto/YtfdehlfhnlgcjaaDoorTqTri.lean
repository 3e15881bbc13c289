/-
  Ours: a trio: a queue of numbers, a queue of texts, the reference's list, apart from each other.
-/
import Derived.Test.YtfdehlfhnlgcjaaDoorTsMove
import Derived.Test.YtfdehlfhnlgcjaaDoorTqWd
import Derived.Test.YtfdehlfhnlgcjaaDoorTqRf4
import Derived.Test.YtfdehlfhnlgcjaaDoorTqLaw
namespace Go.Proofs.YtfdehlfhnlgcjaaDoor
open Go.RowKit TqM

theorem RowI.same {base : Nat} {w w' : World} {v : Value} {es : List (Ky × Int)} (h : RowI base w v es) (hb : ∀ g, v.ownBlock = some g → w'.heap[g]? = w.heap[g]?) : RowI base w' v es := by
  refine ⟨h.1, ?_⟩
  rcases h.2 with hn | ⟨g, cap, cur, hv, hg, hh, rest⟩
  · exact .inl hn
  · exact .inr ⟨g, cap, cur, hv, hg, (hb g (by rw [hv]; rfl)).trans hh, rest⟩
abbrev trV (R1 R2 : Nat) (vL : Value) : Value := .agg #[.pointer (some ⟨R1, 0, none⟩), .pointer (some ⟨R2, 0, none⟩), vL]
def trL (R1 R2 : Nat) (vL : Value) : List Value := [.pointer (some ⟨R1, 0, none⟩), .pointer (some ⟨R2, 0, none⟩), vL]
/-- The keys and values of a trio, as its queues hold them. -/
structure TriQ (R1 R2 : Nat) (vL : Value) (S1 S2 T : Nat → Prop) (L1 : List (Ky × Int)) (L2 : List (Ky × ByteArray)) (G : List (Ky × Int)) (w : World) : Prop where
  q1 : TQ.QAt R1 S1 L1 w
  q2 : TS.QAt R2 S2 L2 w
  t1 : ∀ g, S1 g → T g
  t2 : ∀ g, S2 g → T g
  ap : ∀ g, S1 g → ¬ S2 g
  av : ∀ g, vL.ownBlock = some g → (¬ S1 g ∧ ¬ S2 g) ∧ T g
  p1 : L1.Perm G
  p2 : L2.Perm (G.map wdP)
  row : RowI 0 w vL G
structure Tri (B R1 R2 : Nat) (vL : Value) (T : Nat → Prop) (N : Nat) (G : List (Ky × Int)) (w : World) : Prop where
  q : ∃ S1 S2 L1 L2, TriQ R1 R2 vL S1 S2 T L1 L2 G w
  tw : ∀ g, T g → B ≤ g ∧ g < w.heap.size
  sd : Sd G
  i64 : ∀ x ∈ G, LedM.i64 x.2
  len : G.length ≤ N
theorem TriQ.kp {R1 R2 : Nat} {vL : Value} {S1 S2 T M : Nat → Prop} {L1 : List (Ky × Int)} {L2 : List (Ky × ByteArray)} {G : List (Ky × Int)} {w w' : World} (h : TriQ R1 R2 vL S1 S2 T L1 L2 G w) (k : Kp M w w') (hm : ∀ g, T g → ¬ M g) : TriQ R1 R2 vL S1 S2 T L1 L2 G w' :=
  ⟨h.q1.kp k (fun g hg => hm g (h.t1 g hg)), h.q2.kp k (fun g hg => hm g (h.t2 g hg)), h.t1, h.t2, h.ap, h.av, h.p1, h.p2, h.row.same (fun g hg => k.block g (h.row.lt hg) (hm g (h.av g hg).2))⟩
theorem Tri.kp {B R1 R2 N : Nat} {vL : Value} {T M : Nat → Prop} {G : List (Ky × Int)} {w w' : World} (h : Tri B R1 R2 vL T N G w) (k : Kp M w w') (hm : ∀ g, T g → ¬ M g) : Tri B R1 R2 vL T N G w' := by
  obtain ⟨S1, S2, L1, L2, q⟩ := h.q
  exact ⟨⟨S1, S2, L1, L2, q.kp k hm⟩, fun g hg => ⟨(h.tw g hg).1, Nat.lt_of_lt_of_le (h.tw g hg).2 k.size⟩, h.sd, h.i64, h.len⟩
theorem Tri.below {B R1 R2 N : Nat} {vL : Value} {T : Nat → Prop} {G : List (Ky × Int)} {w w' : World} (h : Tri B R1 R2 vL T N G w) (b : Below w.heap.size w w') : Tri B R1 R2 vL T N G w' := h.kp (Kp.of_below b (fun _ => False)) (fun _ _ h => h)
theorem Tri.mono {B R1 R2 N N' : Nat} {vL : Value} {T : Nat → Prop} {G : List (Ky × Int)} {w : World} (h : Tri B R1 R2 vL T N G w) (hN : N ≤ N') : Tri B R1 R2 vL T N' G w := ⟨h.q, h.tw, h.sd, h.i64, Nat.le_trans h.len hN⟩
/-- What a step leaves of a trio. -/
def TPost (B R1 R2 : Nat) (vL : Value) (T : Nat → Prop) (N : Nat) (w : World) (G : List (Ky × Int)) (w' : World) : Prop := ∃ T', Tri B R1 R2 vL T' N G w' ∧ (∀ g, T' g → T g ∨ w.heap.size ≤ g) ∧ Kp T w w'
theorem TPost.refl {B R1 R2 N : Nat} {vL : Value} {T : Nat → Prop} {G : List (Ky × Int)} {w w' : World} (h : Tri B R1 R2 vL T N G w) (b : Below w.heap.size w w') : TPost B R1 R2 vL T N w G w' := ⟨T, h.below b, fun _ h => .inl h, Kp.of_below b _⟩
theorem TPost.trans {B R1 R2 N : Nat} {vL : Value} {T : Nat → Prop} {G : List (Ky × Int)} {w w1 w' : World} (b : Below w.heap.size w w1) (h : TPost B R1 R2 vL T N w1 G w') : TPost B R1 R2 vL T N w G w' := by
  obtain ⟨T', h1, h2, h3⟩ := h
  exact ⟨T', h1, fun g hg => (h2 g hg).imp id (fun h => Nat.le_trans b.size h), (Kp.of_below b T).trans h3 (fun _ _ h => h)⟩
theorem TPost.later {B R1 R2 N : Nat} {vL : Value} {T : Nat → Prop} {G : List (Ky × Int)} {w w1 w' : World} (h : TPost B R1 R2 vL T N w G w1) (b : Below w1.heap.size w1 w') : TPost B R1 R2 vL T N w G w' := by
  obtain ⟨T', h1, h2, h3⟩ := h
  exact ⟨T', h1.below b, h2, h3.trans (Kp.of_below b (fun _ => False)) (fun _ _ h => h.elim)⟩
theorem tri_after {B R1 R2 N N' : Nat} {vL vL' : Value} {T S1 S2 : Nat → Prop} {G G' L1 L1' : List (Ky × Int)} {L2 L2' : List (Ky × ByteArray)} {w w1 w2 w3 : World} (hB : B ≤ w.heap.size) (h : Tri B R1 R2 vL T N G w) (q : TriQ R1 R2 vL S1 S2 T L1 L2 G w)
    (b1 : Below w.heap.size w w1) (r : RowI 0 w1 vL' G') (hv : ∀ g, vL'.ownBlock = some g → ((¬ S1 g ∧ ¬ S2 g) ∧ T g) ∨ w.heap.size ≤ g)
    (p1 : TQ.QPost R1 S1 w1 L1' w2) (p2 : TS.QPost R2 S2 w2 L2' w3) (e1 : L1'.Perm G') (e2 : L2'.Perm (G'.map wdP)) (sd : Sd G') (i64 : ∀ x ∈ G', LedM.i64 x.2) (len : G'.length ≤ N') : TPost B R1 R2 vL' T N' w G' w3 := by
  obtain ⟨S1', a1, a2, a3⟩ := p1
  obtain ⟨S2', c1, c2, c3⟩ := p2
  have ls1 : ∀ g, S1 g → g < w.heap.size := q.q1.s
  have ls2 : ∀ g, S2 g → g < w.heap.size := q.q2.s
  have s1 := b1.size
  have s2 := a3.size
  have s3 := c3.size
  have nv : ∀ g, vL'.ownBlock = some g → ¬ S1 g ∧ ¬ S2 g := fun g hg => by
    rcases hv g hg with h1 | h1
    · exact h1.1
    · exact ⟨fun h2 => by have := ls1 g h2; omega, fun h2 => by have := ls2 g h2; omega⟩
  have lv : ∀ g, vL'.ownBlock = some g → g < w1.heap.size := fun g hg => r.lt hg
  have n2 : ∀ g, S1' g → ¬ S2 g := fun g hg h2 => by
    rcases a2 g hg with h1 | h1
    · exact q.ap g h1 h2
    · have := ls2 g h2; omega
  refine ⟨fun g => S1' g ∨ S2' g ∨ vL'.ownBlock = some g, ⟨⟨S1', S2', L1', L2', a1.kp c3 n2, c1, fun g h => .inl h, fun g h => .inr (.inl h), ?_, ?_, e1, e2, ?_⟩, ?_, sd, i64, len⟩, ?_, ?_⟩
  · intro g h1 h2
    rcases c2 g h2 with h3 | h3
    · exact n2 g h1 h3
    · have := a1.s g h1; omega
  · intro g hg
    have h0 := nv g hg
    have h1 := lv g hg
    refine ⟨⟨fun h2 => ?_, fun h2 => ?_⟩, .inr (.inr hg)⟩
    · rcases a2 g h2 with h3 | h3
      · exact h0.1 h3
      · omega
    · rcases c2 g h2 with h3 | h3
      · exact h0.2 h3
      · omega
  · exact (r.same (fun g hg => a3.block g (lv g hg) (nv g hg).1)).same (fun g hg => c3.block g (Nat.lt_of_lt_of_le (lv g hg) s2) (nv g hg).2)
  · intro g hg
    have hB1 : T g → B ≤ g := fun h1 => (h.tw g h1).1
    rcases hg with h1 | h1 | h1
    · refine ⟨?_, Nat.lt_of_lt_of_le (a1.s g h1) s3⟩
      rcases a2 g h1 with h2 | h2
      · exact hB1 (q.t1 g h2)
      · omega
    · refine ⟨?_, c1.s g h1⟩
      rcases c2 g h1 with h2 | h2
      · exact hB1 (q.t2 g h2)
      · omega
    · refine ⟨?_, by have := lv g h1; omega⟩
      rcases hv g h1 with h2 | h2
      · exact hB1 h2.2
      · omega
  · intro g hg
    rcases hg with h1 | h1 | h1
    · exact (a2 g h1).imp (q.t1 g) (fun h => by omega)
    · exact (c2 g h1).imp (q.t2 g) (fun h => by omega)
    · exact (hv g h1).imp And.right id
  · refine ((Kp.of_below b1 T).trans (a3.mono (N := fun g => S1 g) (fun _ _ h => h)) (fun g _ h => q.t1 g h)).trans c3 (fun g _ h => q.t2 g h)
end Go.Proofs.YtfdehlfhnlgcjaaDoor
