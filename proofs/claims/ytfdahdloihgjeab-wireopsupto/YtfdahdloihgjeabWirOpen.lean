/-
  Ours: an argument that is an operation, opened.
-/
import Derived.Test.YtfdahdloihgjeabWirRow
import Derived.Test.YtfdahdloihgjeabWirEncOpB
import Derived.ChangeArms
namespace Go.Proofs.Ytfdahdloihgjeab
open Go.ChangeShapes Go.WideShapes Go.ChangeAt Go.RowKit

set_option maxRecDepth 100000 in
theorem op_open {H : Type} {enc : TypeId × Value → H} {W : World} {base : Nat} {v : Value} {d : DataW H} {ps : List MemPlace}
    (hval : Value.okWide Try.prog W .any base 23 v) (hd : DataW.Trod enc Try.prog W 0 (fun _ => true) true 23 v d ps) (hk : Rows.uptoBulk d ≤ 1048576) :
    ∃ o : OpV, v = opV o ∧ o.Ok := by
  have HK : Hid (Rows.uptoBulk d ≤ 1048576) := hk
  clear hk
  obtain ⟨cs, rfl, hs⟩ := okWide_struct Try.underlying23 hval
  obtain ⟨fuel, hf⟩ := hd
  obtain ⟨ys, kk, hkk, hdd, hlen, hyl, hfl⟩ := DataW.trod_struct Try.underlying23 hf
  have cI : Try.prog.cellsOf 3 = 1 := by kernel_rfl
  have cJ : Try.prog.cellsOf 2 = 1 := by kernel_rfl
  have cS : Try.prog.cellsOf 9 = 1 := by kernel_rfl
  have cT : Try.prog.cellsOf 23 = 7 := by kernel_rfl
  rw [cT] at hs
  obtain ⟨l⟩ := cs
  simp at hs
  simp only [Value.cells] at hfl
  match ys, hyl, l, hs with
  | [y0, y1, y2, y3, y4, y5, y6], _, [v0, v1, v2, v3, v4, v5, v6], _ =>
    have t0 := hfl 0 _ rfl
    have t1 := hfl 1 _ rfl
    have t2 := hfl 2 _ rfl
    have t3 := hfl 3 _ rfl
    have t4 := hfl 4 _ rfl
    have t5 := hfl 5 _ rfl
    have t6 := hfl 6 _ rfl
    simp [cI, cJ, cS] at t0 t1 t2 t3 t4 t5 t6
    obtain ⟨n0, e0, _, f0⟩ := DataW.trod_int Try.underlying3 t0
    obtain ⟨n1, e1, _, f1⟩ := DataW.trod_int Try.underlying3 t1
    obtain ⟨n2, e2, _, f2⟩ := DataW.trod_int Try.underlying2 t2
    obtain ⟨n3, e3, _, f3⟩ := DataW.trod_int Try.underlying2 t3
    obtain ⟨n4, e4, _, f4⟩ := DataW.trod_int Try.underlying3 t4
    obtain ⟨n5, e5, _, f5⟩ := DataW.trod_int Try.underlying3 t5
    obtain ⟨n6, e6, g6, f6⟩ := DataW.trod_string Try.underlying9 t6
    simp at e0 e1 e2 e3 e4 e5 e6
    subst e0 e1 e2 e3 e4 e5 e6
    have ed := (Prod.mk.inj hdd).1
    have hb : n6.size ≤ 1048576 := by
      refine bulk_string (H := H) (Nat.le_trans ?_ HK.out)
      rw [ed]
      simp only [Rows.uptoBulk.eq_6]
      refine Nat.le_trans (bulk_mem (d := y6.1) (l := [y0, y1, y2, y3, y4, y5, y6].map (·.1)) (by simp) |> fun h => ?_) (Nat.le_succ _)
      have g7 : y6.1 = DataW.lit (.string n6.data.toList) := by rw [g6]
      rw [← g7]
      exact h
    exact ⟨⟨n0, n1, n2, n3, n4, n5, n6⟩, rfl, ⟨bounds f0, bounds f1, bounds f2, bounds f3, bounds f4, bounds f5, Nat.le_trans hb (by decide)⟩⟩
end Go.Proofs.Ytfdahdloihgjeab
