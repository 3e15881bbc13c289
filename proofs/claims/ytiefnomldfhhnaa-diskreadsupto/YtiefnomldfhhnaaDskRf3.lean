/-
  Ours: the reference's disk in memory; fallen.
-/
import Derived.Test.YtiefnomldfhhnaaDskRf2
import Derived.Deep.RegionHeld3
namespace Go.Proofs.Ytiefnomldfhhnaa
open Go.RowKit

abbrev RowA (w : World) (v : Value) (ar : List (Int × Int)) : Prop := RowK 88 2 w v ar.length (qv ar)
/-- The reference's disk: the same data, laid otherwise; T holds its blocks. -/
structure RfV (T : Nat → Prop) (t : Dk) (x0 x1 p0 p1 xa : Sl) (cn : Int) (w : World) : Prop where
  d0 : RowB 5 0 w x0.v (t.b0.take t.d0)
  d1 : RowB 5 0 w x1.v (t.b1.take t.d1)
  q0 : RowB 5 0 w p0.v (t.b0.drop t.d0)
  q1 : RowB 5 0 w p1.v (t.b1.drop t.d1)
  ar : ∃ ar, RowA w xa.v ar ∧ cnt ar cn t.q
  s : ∀ g, T g → g < w.heap.size
  t0 : ∀ g, x0.v.ownBlock = some g → T g
  t1 : ∀ g, x1.v.ownBlock = some g → T g
  t2 : ∀ g, p0.v.ownBlock = some g → T g
  t3 : ∀ g, p1.v.ownBlock = some g → T g
  t4 : ∀ g, xa.v.ownBlock = some g → T g
theorem RfV.kp {T M : Nat → Prop} {t : Dk} {x0 x1 p0 p1 xa : Sl} {cn : Int} {w w' : World} (h : RfV T t x0 x1 p0 p1 xa cn w) (k : Kp M w w') (hm : ∀ g, T g → ¬ M g) : RfV T t x0 x1 p0 p1 xa cn w' := by
  obtain ⟨ar, r, c⟩ := h.ar
  exact ⟨h.d0.kp k (fun g hg => hm g (h.t0 g hg)), h.d1.kp k (fun g hg => hm g (h.t1 g hg)), h.q0.kp k (fun g hg => hm g (h.t2 g hg)), h.q1.kp k (fun g hg => hm g (h.t3 g hg)), ⟨ar, RowK.kp r k (fun g hg => hm g (h.t4 g hg)), c⟩, fun g hg => Nat.lt_of_lt_of_le (h.s g hg) k.size, h.t0, h.t1, h.t2, h.t3, h.t4⟩
theorem RfV.below {T : Nat → Prop} {t : Dk} {x0 x1 p0 p1 xa : Sl} {cn : Int} {w w' : World} (h : RfV T t x0 x1 p0 p1 xa cn w) (hb : Below w.heap.size w w') : RfV T t x0 x1 p0 p1 xa cn w' := h.kp (Kp.of_below hb (fun _ => False)) (fun _ _ h => h)
theorem RfV.more {T U : Nat → Prop} {t : Dk} {x0 x1 p0 p1 xa : Sl} {cn : Int} {w : World} (h : RfV T t x0 x1 p0 p1 xa cn w) (hU : ∀ g, U g → g < w.heap.size) (hT : ∀ g, T g → U g) : RfV U t x0 x1 p0 p1 xa cn w :=
  ⟨h.d0, h.d1, h.q0, h.q1, h.ar, hU, fun g hg => hT g (h.t0 g hg), fun g hg => hT g (h.t1 g hg), fun g hg => hT g (h.t2 g hg), fun g hg => hT g (h.t3 g hg), fun g hg => hT g (h.t4 g hg)⟩
/-- A call of the reference that answers a disk: what it made is new. -/
def RfNew (T : Nat → Prop) (w : World) (t : Dk) (x0 x1 p0 p1 xa : Sl) (cn : Int) (w' : World) : Prop := ∃ T', RfV T' t x0 x1 p0 p1 xa cn w' ∧ (∀ g, T' g → T g ∨ w.heap.size ≤ g) ∧ Below w.heap.size w w'
/-- Its rows, each old or new, make a disk. -/
theorem RfNew.mk {T : Nat → Prop} {w w' : World} {t : Dk} {x0 x1 p0 p1 xa : Sl} {cn : Int} (hT : ∀ g, T g → g < w.heap.size) (hb : Below w.heap.size w w') (d0 : RowB 5 0 w' x0.v (t.b0.take t.d0)) (d1 : RowB 5 0 w' x1.v (t.b1.take t.d1)) (q0 : RowB 5 0 w' p0.v (t.b0.drop t.d0)) (q1 : RowB 5 0 w' p1.v (t.b1.drop t.d1))
    (ar : ∃ ar, RowA w' xa.v ar ∧ cnt ar cn t.q) (t0 : ∀ g, x0.v.ownBlock = some g → T g ∨ (w.heap.size ≤ g ∧ g < w'.heap.size)) (t1 : ∀ g, x1.v.ownBlock = some g → T g ∨ (w.heap.size ≤ g ∧ g < w'.heap.size)) (t2 : ∀ g, p0.v.ownBlock = some g → T g ∨ (w.heap.size ≤ g ∧ g < w'.heap.size)) (t3 : ∀ g, p1.v.ownBlock = some g → T g ∨ (w.heap.size ≤ g ∧ g < w'.heap.size)) (t4 : ∀ g, xa.v.ownBlock = some g → T g ∨ (w.heap.size ≤ g ∧ g < w'.heap.size)) : RfNew T w t x0 x1 p0 p1 xa cn w' :=
  ⟨fun g => T g ∨ (w.heap.size ≤ g ∧ g < w'.heap.size), ⟨d0, d1, q0, q1, ar, fun g hg => hg.elim (fun h => Nat.lt_of_lt_of_le (hT g h) hb.size) (fun h => h.2), t0, t1, t2, t3, t4⟩, fun _ hg => hg.imp id (fun h => h.1), hb⟩
theorem new_block {e : TypeId} {base : Nat} {w w' : World} {v : Value} {xs : List Value} {T : Nat → Prop} (h : RowV e base w' v xs) (hb : w.heap.size ≤ base) : ∀ g, v.ownBlock = some g → T g ∨ (w.heap.size ≤ g ∧ g < w'.heap.size) := fun _ hg => .inr ⟨Nat.le_trans hb (h.block_ge hg), h.block_lt hg⟩
theorem nil_block {w w' : World} {T : Nat → Prop} : ∀ g, Sl.z.v.ownBlock = some g → T g ∨ (w.heap.size ≤ g ∧ g < w'.heap.size) := fun _ hg => by cases hg
theorem Blk.eight {G : Nat} {ty : TypeId} {z0 z1 z2 z3 z4 z5 z6 z7 : Value} {w : World} (h : Blk G ty [z0, z1, z2, z3, z4, z5, z6, z7] w) (a b c d e f g i : Value) :
    Blk G ty [a, b, c, d, e, f, g, i] ((((((((w.setCell ⟨G, 0, none⟩ a).setCell ⟨G, 1, none⟩ b).setCell ⟨G, 2, none⟩ c).setCell ⟨G, 3, none⟩ d).setCell ⟨G, 4, none⟩ e).setCell ⟨G, 5, none⟩ f).setCell ⟨G, 6, none⟩ g).setCell ⟨G, 7, none⟩ i) ∧ w.grownBy ((((((((w.setCell ⟨G, 0, none⟩ a).setCell ⟨G, 1, none⟩ b).setCell ⟨G, 2, none⟩ c).setCell ⟨G, 3, none⟩ d).setCell ⟨G, 4, none⟩ e).setCell ⟨G, 5, none⟩ f).setCell ⟨G, 6, none⟩ g).setCell ⟨G, 7, none⟩ i) (some G) :=
  ⟨Blk.set (i := 7) (Blk.set (i := 6) (Blk.set (i := 5) (Blk.set (i := 4) (Blk.set (i := 3) (Blk.set (i := 2) (Blk.set (i := 1) (Blk.set (i := 0) h a) b) c) d) e) f) g) i, grownBy_trans (grownBy_trans (grownBy_trans (grownBy_trans (grownBy_trans (grownBy_trans (grownBy_trans (setCell_grown _ G 0 _) (setCell_grown _ G 1 _)) (setCell_grown _ G 2 _)) (setCell_grown _ G 3 _)) (setCell_grown _ G 4 _)) (setCell_grown _ G 5 _)) (setCell_grown _ G 6 _)) (setCell_grown _ G 7 _)⟩
theorem below_dr {w w' : World} {n : Nat} (h : Below (w.drewN n).heap.size (w.drewN n) w') : Below w.heap.size w w' := ⟨h.os, h.tape, h.output, h.size, h.block⟩
theorem sl_of {e : TypeId} {base : Nat} {w : World} {v : Value} {xs : List Value} (h : RowV e base w v xs) : ∃ s : Sl, v = s.v ∧ s.n = xs.length := by
  obtain ⟨a, c, e, _⟩ := row_shape h
  exact ⟨⟨a, xs.length, c⟩, e, rfl⟩
end Go.Proofs.Ytiefnomldfhhnaa
