/-
  Ours: an argument of terms, opened.
-/
import Derived.Test.YtkabfdajpilomabDoorProg
import Derived.Test.YtkabfdajpilomabDoorIntValid
import Derived.Test.YtkabfdajpilomabDoorCalTab
import Derived.ProofKit
import Derived.OpenShut
import Derived.ChangeArms
namespace Go.Proofs.YtkabfdajpilomabDoor
open Go.ChangeShapes Go.WideShapes Go.ChangeAt Go.RowKit

theorem terms_open {H : Type} {enc : TypeId × Value → H} {W : World} {base : Nat} {v : Value} {d : DataW H} {ps : List MemPlace}
    (hval : Value.okWide Tryd.prog W .any base 23 v) (hd : DataW.Trod enc Tryd.prog W 0 (fun _ => true) true 23 v d ps) :
    ∃ kind P r n start rule, v = termsV kind P r n start rule ∧ (-9223372036854775808 ≤ P ∧ P ≤ 9223372036854775807) ∧ (-9223372036854775808 ≤ start ∧ start ≤ 9223372036854775807) := by
  obtain ⟨cs, rfl, hs⟩ := okWide_struct Tryd.underlying23 hval
  obtain ⟨fuel, hf⟩ := hd
  obtain ⟨ys, kk, hkk, _, hlen, hyl, hfl⟩ := DataW.trod_struct Tryd.underlying23 hf
  have cI : Tryd.prog.cellsOf 3 = 1 := by kernel_rfl
  have cJ : Tryd.prog.cellsOf 2 = 1 := by kernel_rfl
  have cT : Tryd.prog.cellsOf 23 = 6 := by kernel_rfl
  rw [cT] at hs
  obtain ⟨l⟩ := cs
  simp at hs
  simp only [Value.cells] at hfl
  match ys, hyl, l, hs with
  | [y0, y1, y2, y3, y4, y5], _, [v0, v1, v2, v3, v4, v5], _ =>
    have t0 := hfl 0 _ rfl
    have t1 := hfl 1 _ rfl
    have t2 := hfl 2 _ rfl
    have t3 := hfl 3 _ rfl
    have t4 := hfl 4 _ rfl
    have t5 := hfl 5 _ rfl
    simp [cI, cJ] at t0 t1 t2 t3 t4 t5
    obtain ⟨n0, e0, _, f0⟩ := DataW.trod_int Tryd.underlying3 t0
    obtain ⟨n1, e1, _, f1⟩ := DataW.trod_int Tryd.underlying2 t1
    obtain ⟨n2, e2, _, f2⟩ := DataW.trod_int Tryd.underlying2 t2
    obtain ⟨n3, e3, _, f3⟩ := DataW.trod_int Tryd.underlying3 t3
    obtain ⟨n4, e4, _, f4⟩ := DataW.trod_int Tryd.underlying3 t4
    obtain ⟨n5, e5, _, f5⟩ := DataW.trod_int Tryd.underlying3 t5
    simp at e0 e1 e2 e3 e4 e5
    subst e0 e1 e2 e3 e4 e5
    exact ⟨n0, n1, n2, n3, n4, n5, rfl, bounds f1, bounds f4⟩
end Go.Proofs.YtkabfdajpilomabDoor
