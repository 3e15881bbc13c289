/-
  Ours: a disk and the reference's, in memory.
-/
import Derived.Test.YtiefnomldfhhnaaDskHeld
import Derived.Test.YtiefnomldfhhnaaDskRf6
import Derived.Test.YtiefnomldfhhnaaDskRf7
import Derived.Test.YtiefnomldfhhnaaDskRf8
import Derived.Test.YtiefnomldfhhnaaDskRf9
import Derived.Test.YtiefnomldfhhnaaDskRfL
import Derived.Test.YtiefnomldfhhnaaDskRfA
namespace Go.Proofs.Ytiefnomldfhhnaa
open Go.RowKit

abbrev PV (R : Nat) (x0 x1 p0 p1 xa : Sl) (cn : Int) (dn : Bool) (wr : Int) : List Value := .pointer (some ⟨R, 0, none⟩) :: RV x0 x1 p0 p1 xa cn dn wr
abbrev PZ : List Value := .pointer none :: RZ
structure PrIn (w0 : World) (R : Nat) (S T : Nat → Prop) (t : Dk) (x0 x1 p0 p1 xa : Sl) (cn : Int) (w : World) : Prop where
  d : DkIn w0 R S t w
  r : RfV T t x0 x1 p0 p1 xa cn w
  ap : ∀ g, T g → ¬ S g
  tn : ∀ g, T g → w0.heap.size ≤ g
theorem PrIn.below {w0 : World} {R : Nat} {S T : Nat → Prop} {t : Dk} {x0 x1 p0 p1 xa : Sl} {cn : Int} {w w' : World} (h : PrIn w0 R S T t x0 x1 p0 p1 xa cn w) (hb : Below w.heap.size w w') : PrIn w0 R S T t x0 x1 p0 p1 xa cn w' := ⟨h.d.below hb, h.r.below hb, h.ap, h.tn⟩
theorem PrIn.kp {w0 : World} {R : Nat} {S T M : Nat → Prop} {t : Dk} {x0 x1 p0 p1 xa : Sl} {cn : Int} {w w' : World} (h : PrIn w0 R S T t x0 x1 p0 p1 xa cn w) (k : Kp M w w') (hS : ∀ g, S g → ¬ M g) (hT : ∀ g, T g → ¬ M g) (hM : ∀ g, M g → w0.heap.size ≤ g) : PrIn w0 R S T t x0 x1 p0 p1 xa cn w' :=
  ⟨⟨h.d.at_.kp k hS, h.d.new, Below.of_kp h.d.bel k hM⟩, h.r.kp k hT, h.ap, h.tn⟩
/-- Behind a step on both. -/
def PrPost (w0 : World) (R : Nat) (S T : Nat → Prop) (w : World) (t : Dk) (x0 x1 p0 p1 xa : Sl) (cn : Int) (w' : World) : Prop := ∃ S' T', PrIn w0 R S' T' t x0 x1 p0 p1 xa cn w' ∧ (∀ g, S' g → S g ∨ w.heap.size ≤ g) ∧ (∀ g, T' g → T g ∨ w.heap.size ≤ g) ∧ Kp S w w'
/-- The reference's call, then the program's. -/
theorem PrPost.mk {w0 : World} {R : Nat} {S T : Nat → Prop} {t t' : Dk} {x0 x1 p0 p1 xa y0 y1 q0 q1 ya : Sl} {cn cm : Int} {w w1 w2 : World} (h : PrIn w0 R S T t x0 x1 p0 p1 xa cn w) (rn : RfNew T w t' y0 y1 q0 q1 ya cm w1) (p : DkPost R S w1 t' w2) : PrPost w0 R S T w t' y0 y1 q0 q1 ya cm w2 := by
  obtain ⟨T', v, nT, hb⟩ := rn
  have d1 := h.d.below hb
  obtain ⟨S', i2, nS, k⟩ := d1.post p
  have sz := hb.size
  have slt := h.d.at_.size
  have tlt := h.r.s
  have vlt := v.s
  refine ⟨S', T', ⟨i2, v.kp k (fun g hg hs => ?_), fun g hg hs => ?_, fun g hg => ?_⟩, fun g hg => (nS g hg).imp id (fun h => by omega), nT, (Kp.of_below hb S).trans k (fun _ _ h => h)⟩
  · rcases nT g hg with h1 | h1
    · exact h.ap g h1 hs
    · have := slt g hs; omega
  · rcases nS g hs with h2 | h2
    · rcases nT g hg with h1 | h1
      · exact h.ap g h1 h2
      · have := slt g h2; omega
    · have := vlt g hg; omega
  · rcases nT g hg with h1 | h1
    · exact h.tn g h1
    · have := h.d.bel.size; omega
theorem PrPost.same {w0 : World} {R : Nat} {S T : Nat → Prop} {t : Dk} {x0 x1 p0 p1 xa : Sl} {cn : Int} {w w1 : World} (h : PrIn w0 R S T t x0 x1 p0 p1 xa cn w) (hb : Below w.heap.size w w1) : PrPost w0 R S T w t x0 x1 p0 p1 xa cn w1 := ⟨S, T, h.below hb, fun _ h => .inl h, fun _ h => .inl h, Kp.of_below hb _⟩
theorem PrPost.pre {w0 : World} {R : Nat} {S T : Nat → Prop} {t : Dk} {x0 x1 p0 p1 xa : Sl} {cn : Int} {w w1 w2 : World} (hb : Below w.heap.size w w1) (p : PrPost w0 R S T w1 t x0 x1 p0 p1 xa cn w2) : PrPost w0 R S T w t x0 x1 p0 p1 xa cn w2 := by
  obtain ⟨S', T', a, b, c, d⟩ := p
  exact ⟨S', T', a, fun g hg => (b g hg).imp id (fun h => Nat.le_trans hb.size h), fun g hg => (c g hg).imp id (fun h => Nat.le_trans hb.size h), (Kp.of_below hb S).trans d (fun _ _ h => h)⟩
/-- A block that is neither's may change. -/
theorem PrPost.grown {w0 : World} {R : Nat} {S T : Nat → Prop} {t : Dk} {x0 x1 p0 p1 xa : Sl} {cn : Int} {w w1 w2 : World} {G : Nat} (p : ∃ S' T', PrIn w0 R S' T' t x0 x1 p0 p1 xa cn w1 ∧ (∀ g, S' g → S g ∨ w.heap.size ≤ g) ∧ (∀ g, T' g → T g ∨ w.heap.size ≤ g) ∧ Kp S w w1 ∧ ¬ S' G ∧ ¬ T' G) (hg : w1.grownBy w2 (some G)) (hG : w.heap.size ≤ G) (hw : w0.heap.size ≤ G) : PrPost w0 R S T w t x0 x1 p0 p1 xa cn w2 := by
  obtain ⟨S', T', a, b, c, d, e, f⟩ := p
  exact ⟨S', T', a.kp (Kp.of_grown hg) (fun g h1 h2 => by injection h2 with h2; subst h2; exact e h1) (fun g h1 h2 => by injection h2 with h2; subst h2; exact f h1) (fun g h2 => by injection h2 with h2; subst h2; exact hw), b, c, d.trans (Kp.of_grown hg) (fun g h1 h2 => by injection h2 with h2; omega)⟩
theorem Blk.nineR {G : Nat} {ty : TypeId} {z z0 z1 z2 z3 z4 z5 z6 z7 : Value} {w : World} (h : Blk G ty [z, z0, z1, z2, z3, z4, z5, z6, z7] w) (a b c d e f g i : Value) :
    Blk G ty [z, a, b, c, d, e, f, g, i] ((((((((w.setCell ⟨G, 1, none⟩ (a)).setCell ⟨G, 2, none⟩ (b)).setCell ⟨G, 3, none⟩ (c)).setCell ⟨G, 4, none⟩ (d)).setCell ⟨G, 5, none⟩ (e)).setCell ⟨G, 6, none⟩ (f)).setCell ⟨G, 7, none⟩ (g)).setCell ⟨G, 8, none⟩ (i)) ∧ w.grownBy ((((((((w.setCell ⟨G, 1, none⟩ (a)).setCell ⟨G, 2, none⟩ (b)).setCell ⟨G, 3, none⟩ (c)).setCell ⟨G, 4, none⟩ (d)).setCell ⟨G, 5, none⟩ (e)).setCell ⟨G, 6, none⟩ (f)).setCell ⟨G, 7, none⟩ (g)).setCell ⟨G, 8, none⟩ (i)) (some G) :=
  ⟨Blk.set (i := 8) (Blk.set (i := 7) (Blk.set (i := 6) (Blk.set (i := 5) (Blk.set (i := 4) (Blk.set (i := 3) (Blk.set (i := 2) (Blk.set (i := 1) h a) b) c) d) e) f) g) i, grownBy_trans (grownBy_trans (grownBy_trans (grownBy_trans (grownBy_trans (grownBy_trans (grownBy_trans (setCell_grown _ G 1 _) (setCell_grown _ G 2 _)) (setCell_grown _ G 3 _)) (setCell_grown _ G 4 _)) (setCell_grown _ G 5 _)) (setCell_grown _ G 6 _)) (setCell_grown _ G 7 _)) (setCell_grown _ G 8 _)⟩
theorem Blk.nine {G : Nat} {ty : TypeId} {z z0 z1 z2 z3 z4 z5 z6 z7 : Value} {w : World} (h : Blk G ty [z, z0, z1, z2, z3, z4, z5, z6, z7] w) (y a b c d e f g i : Value) :
    Blk G ty [y, a, b, c, d, e, f, g, i] (((((((((w.setCell ⟨G, 0, none⟩ (y)).setCell ⟨G, 1, none⟩ (a)).setCell ⟨G, 2, none⟩ (b)).setCell ⟨G, 3, none⟩ (c)).setCell ⟨G, 4, none⟩ (d)).setCell ⟨G, 5, none⟩ (e)).setCell ⟨G, 6, none⟩ (f)).setCell ⟨G, 7, none⟩ (g)).setCell ⟨G, 8, none⟩ (i)) ∧ w.grownBy (((((((((w.setCell ⟨G, 0, none⟩ (y)).setCell ⟨G, 1, none⟩ (a)).setCell ⟨G, 2, none⟩ (b)).setCell ⟨G, 3, none⟩ (c)).setCell ⟨G, 4, none⟩ (d)).setCell ⟨G, 5, none⟩ (e)).setCell ⟨G, 6, none⟩ (f)).setCell ⟨G, 7, none⟩ (g)).setCell ⟨G, 8, none⟩ (i)) (some G) :=
  ⟨Blk.set (i := 8) (Blk.set (i := 7) (Blk.set (i := 6) (Blk.set (i := 5) (Blk.set (i := 4) (Blk.set (i := 3) (Blk.set (i := 2) (Blk.set (i := 1) (Blk.set (i := 0) h y) a) b) c) d) e) f) g) i, grownBy_trans (grownBy_trans (grownBy_trans (grownBy_trans (grownBy_trans (grownBy_trans (grownBy_trans (grownBy_trans (setCell_grown _ G 0 _) (setCell_grown _ G 1 _)) (setCell_grown _ G 2 _)) (setCell_grown _ G 3 _)) (setCell_grown _ G 4 _)) (setCell_grown _ G 5 _)) (setCell_grown _ G 6 _)) (setCell_grown _ G 7 _)) (setCell_grown _ G 8 _)⟩
theorem below3 (w : World) (c1 c2 c3 : List Value) (t1 t2 t3 : TypeId) : Below w.heap.size w (((w.alloc (.cells c1.toArray t1)).alloc (.cells c2.toArray t2)).alloc (.cells c3.toArray t3)) := below_trans (below2 w c1 c2 t1 t2) (below_alloc _ _)
theorem blk3 (w : World) (c1 c2 c3 : List Value) (t1 t2 t3 : TypeId) : Blk w.heap.size t1 c1 (((w.alloc (.cells c1.toArray t1)).alloc (.cells c2.toArray t2)).alloc (.cells c3.toArray t3)) ∧ Blk (w.heap.size + 1) t2 c2 (((w.alloc (.cells c1.toArray t1)).alloc (.cells c2.toArray t2)).alloc (.cells c3.toArray t3)) ∧ Blk (w.heap.size + 2) t3 c3 (((w.alloc (.cells c1.toArray t1)).alloc (.cells c2.toArray t2)).alloc (.cells c3.toArray t3)) := by
  refine ⟨(blk1 w c1 c2 t1 t2).below (below_alloc _ _), (blk2 w c1 c2 t1 t2).below (below_alloc _ _), ?_⟩
  have := Blk.new t3 c3 ((w.alloc (.cells c1.toArray t1)).alloc (.cells c2.toArray t2))
  rw [show ((w.alloc (.cells c1.toArray t1)).alloc (.cells c2.toArray t2)).heap.size = w.heap.size + 2 by simp] at this
  exact this
end Go.Proofs.Ytiefnomldfhhnaa
