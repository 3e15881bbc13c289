/-
  Ours: side: what a disk's files are, by its own calls.
-/
import Derived.Test.YtiefnomldfhhnaaDskOp
namespace Go.Proofs.Ytiefnomldfhhnaa
open Go.RowKit

abbrev SD (a0 : Option Addr) (n0 c0 : Nat) (a1 : Option Addr) (n1 c1 : Nat) (a2 : Option Addr) (n2 c2 : Nat) (a3 : Option Addr) (n3 c3 : Nat) (dn : Bool) : List Value := [.slice a0 n0 c0, .slice a1 n1 c1, .slice a2 n2 c2, .slice a3 n3 c3, .bool dn]
abbrev SZ : List Value := [.slice none 0 0, .slice none 0 0, .slice none 0 0, .slice none 0 0, .bool false]
theorem Blk.five {G : Nat} {ty : TypeId} {z0 z1 z2 z3 z4 : Value} {w : World} (h : Blk G ty [z0, z1, z2, z3, z4] w) (a b c d e : Value) :
    Blk G ty [a, b, c, d, e] (((((w.setCell ⟨G, 0, none⟩ a).setCell ⟨G, 1, none⟩ b).setCell ⟨G, 2, none⟩ c).setCell ⟨G, 3, none⟩ d).setCell ⟨G, 4, none⟩ e) ∧ w.grownBy (((((w.setCell ⟨G, 0, none⟩ a).setCell ⟨G, 1, none⟩ b).setCell ⟨G, 2, none⟩ c).setCell ⟨G, 3, none⟩ d).setCell ⟨G, 4, none⟩ e) (some G) :=
  ⟨Blk.set (i := 4) (Blk.set (i := 3) (Blk.set (i := 2) (Blk.set (i := 1) (Blk.set (i := 0) h a) b) c) d) e, grownBy_trans (grownBy_trans (grownBy_trans (grownBy_trans (setCell_grown _ G 0 _) (setCell_grown _ G 1 _)) (setCell_grown _ G 2 _)) (setCell_grown _ G 3 _)) (setCell_grown _ G 4 _)⟩

/-- What side hands out: the four rows in new memory, apart from one another. -/
structure SideV (base : Nat) (t : Dk) (w : World) (v0 v1 u0 u1 : Value) : Prop where
  r0 : RowB 5 base w v0 (t.read 0).1
  r1 : RowB 5 base w v1 (t.read 1).1
  d0 : RowB 5 base w u0 (t.durable 0).1
  d1 : RowB 5 base w u1 (t.durable 1).1
  ap : ∀ g, u1.ownBlock = some g → u0.ownBlock ≠ some g

end Go.Proofs.Ytiefnomldfhhnaa
