/-
  Ours: an argument of what is owed, opened.
-/
import Derived.Test.YtplebplpachgiaaDoorWirRow
import Derived.Test.YtplebplpachgiaaDoorLedOwn
import Derived.ProofKit
import Derived.OpenShut
import Derived.ChangeArms
namespace Go.Proofs.YtplebplpachgiaaDoor
open Go.ChangeShapes Go.WideShapes Go.ChangeAt Go.RowKit

theorem owed_open {H : Type} {enc : TypeId × Value → H} {W : World} {base : Nat} {v : Value} {d : DataW H} {ps : List MemPlace}
    (hval : Value.okWide Tryd.prog W .any base 23 v) (hd : DataW.Trod enc Tryd.prog W 0 (fun _ => true) true 23 v d ps) :
    ∃ x0 x1 x2, v = .agg (bkL [x0, x1, x2]).toArray ∧ LedM.i64 x0 ∧ LedM.i64 x1 ∧ LedM.i64 x2 := by
  obtain ⟨cs, rfl, hs⟩ := okWide_struct Tryd.underlying23 hval
  obtain ⟨fuel, hf⟩ := hd
  obtain ⟨ys, kk, hkk, _, hlen, hyl, hfl⟩ := DataW.trod_struct Tryd.underlying23 hf
  have cJ : Tryd.prog.cellsOf 2 = 1 := by kernel_rfl
  have cT : Tryd.prog.cellsOf 23 = 3 := by kernel_rfl
  rw [cT] at hs
  obtain ⟨l⟩ := cs
  simp at hs
  simp only [Value.cells] at hfl
  match ys, hyl, l, hs with
  | [y0, y1, y2], _, [v0, v1, v2], _ =>
    have t0 := hfl 0 _ rfl
    have t1 := hfl 1 _ rfl
    have t2 := hfl 2 _ rfl
    simp [cJ] at t0 t1 t2
    obtain ⟨n0, e0, _, f0⟩ := DataW.trod_int Tryd.underlying2 t0
    obtain ⟨n1, e1, _, f1⟩ := DataW.trod_int Tryd.underlying2 t1
    obtain ⟨n2, e2, _, f2⟩ := DataW.trod_int Tryd.underlying2 t2
    simp at e0 e1 e2
    subst e0 e1 e2
    exact ⟨n0, n1, n2, rfl, bounds f0, bounds f1, bounds f2⟩
end Go.Proofs.YtplebplpachgiaaDoor
