/-
  Ours: fell.
-/
import Derived.Test.YtiefnomldfhhnaaDskWrote
namespace Go.Proofs.Ytiefnomldfhhnaa
open Go.RowKit

def flR (o : OpD) (f : Int) (X : List Nat) : List Nat := if f = o.file ∧ (o.kind = 1 ∨ o.kind = 2) then X ++ handedL o else X
/-- What a round of fell looks at: all bytes that were, the durable ones that were, those that are. -/
structure Fel (w : World) (o : OpD) (f : Int) (aX : Option Addr) (cX : Nat) (aY : Option Addr) (cY : Nat) (aV : Option Addr) (nV cV : Nat) (X Y V : List Nat) : Prop where
  x : RdB w (.slice aX X.length cX) X
  y : RdB w (.slice aY Y.length cY) Y
  v : RdB w (.slice aV nV cV) V
  p1 : Y <+: V
  p2 : V <+: flR o f X
  lx : X.length ≤ 100000000
  ly : Y.length ≤ 100000000
  lv : V.length ≤ 100000000
theorem Fel.later {w w' : World} {o : OpD} {f : Int} {aX : Option Addr} {cX : Nat} {aY : Option Addr} {cY : Nat} {aV : Option Addr} {nV cV : Nat} {X Y V : List Nat} (h : Fel w o f aX cX aY cY aV nV cV X Y V) (hb : Below w.heap.size w w') : Fel w' o f aX cX aY cY aV nV cV X Y V :=
  ⟨Rd.later h.x hb, Rd.later h.y hb, Rd.later h.v hb, h.p1, h.p2, h.lx, h.ly, h.lv⟩
def FelIs (w : World) (o : OpD) (f : Int) (X : List Nat) (v8 : Value) (wx : World) : Prop :=
  ∃ a8 c8, v8 = .slice a8 (flR o f X).length c8 ∧ RdB wx (.slice a8 (flR o f X).length c8) (flR o f X) ∧ Below w.heap.size w wx

end Go.Proofs.Ytiefnomldfhhnaa
