/-
  Ours: an argument of parts, opened.
-/
import Derived.Test.YtplebplpachgiaaWirRow
import Derived.Test.YtplebplpachgiaaLedOwn
import Derived.ProofKit
import Derived.OpenShut
import Derived.ChangeArms
namespace Go.Proofs.Ytplebplpachgiaa
open Go.ChangeShapes Go.WideShapes Go.ChangeAt Go.RowKit

theorem parts_open {H : Type} {enc : TypeId × Value → H} {W : World} {base : Nat} {v : Value} {d : DataW H} {ps : List MemPlace}
    (hval : Value.okWide Try.prog W .any base 23 v) (hd : DataW.Trod enc Try.prog W 0 (fun _ => true) true 23 v d ps) :
    ∃ x0 x1 x2 x3 x4, v = .agg (bkL [x0, x1, x2, x3, x4]).toArray ∧ LedM.i64 x0 ∧ LedM.i64 x1 ∧ LedM.i64 x2 ∧ LedM.i64 x3 ∧ LedM.i64 x4 := by
  obtain ⟨cs, rfl, hs⟩ := okWide_struct Try.underlying23 hval
  obtain ⟨fuel, hf⟩ := hd
  obtain ⟨ys, kk, hkk, _, hlen, hyl, hfl⟩ := DataW.trod_struct Try.underlying23 hf
  have cJ : Try.prog.cellsOf 2 = 1 := by kernel_rfl
  have cT : Try.prog.cellsOf 23 = 5 := by kernel_rfl
  rw [cT] at hs
  obtain ⟨l⟩ := cs
  simp at hs
  simp only [Value.cells] at hfl
  match ys, hyl, l, hs with
  | [y0, y1, y2, y3, y4], _, [v0, v1, v2, v3, v4], _ =>
    have t0 := hfl 0 _ rfl
    have t1 := hfl 1 _ rfl
    have t2 := hfl 2 _ rfl
    have t3 := hfl 3 _ rfl
    have t4 := hfl 4 _ rfl
    simp [cJ] at t0 t1 t2 t3 t4
    obtain ⟨n0, e0, _, f0⟩ := DataW.trod_int Try.underlying2 t0
    obtain ⟨n1, e1, _, f1⟩ := DataW.trod_int Try.underlying2 t1
    obtain ⟨n2, e2, _, f2⟩ := DataW.trod_int Try.underlying2 t2
    obtain ⟨n3, e3, _, f3⟩ := DataW.trod_int Try.underlying2 t3
    obtain ⟨n4, e4, _, f4⟩ := DataW.trod_int Try.underlying2 t4
    simp at e0 e1 e2 e3 e4
    subst e0 e1 e2 e3 e4
    exact ⟨n0, n1, n2, n3, n4, rfl, bounds f0, bounds f1, bounds f2, bounds f3, bounds f4⟩
end Go.Proofs.Ytplebplpachgiaa
