/-
  Ours: an argument that is a record, opened.
-/
import Derived.Test.YtdbjjeaflfoppaaWirRow
import Derived.Test.YtdbjjeaflfoppaaWirEncR
import Derived.ChangeArms
namespace Go.Proofs.Ytdbjjeaflfoppaa
open Go.ChangeShapes Go.WideShapes Go.ChangeAt Go.RowKit

section
variable {H : Type} {enc : TypeId × Value → H} {W : World}
theorem bulk_part {d : DataW H} {l : List (DataW H)} (h : d ∈ l) (hk : Rows.uptoBulk (DataW.agg l) ≤ 1048576) : Rows.uptoBulk d ≤ 1048576 := by
  have := bulk_mem h
  simp only [Rows.uptoBulk.eq_6] at hk
  omega

set_option maxRecDepth 100000 in
theorem op_cells {fuel : Nat} {l : List Value} {x : DataW H × List MemPlace} (hf : DataW.trod enc Try.prog W 0 (fun _ => true) true fuel 23 l = some x) (hk : Rows.uptoBulk x.1 ≤ 1048576) :
    ∃ o : OpV, l = [.int .i64 o.kind, .int .i64 o.loan, .int .i64 o.amount, .int .i64 o.rate, .int .i64 o.count, .int .i64 o.days, .string o.text] ∧ o.Ok := by
  have HK : Hid (Rows.uptoBulk x.1 ≤ 1048576) := hk
  clear hk
  obtain ⟨ys, kk, hkk, hdd, hlen, hyl, hfl⟩ := DataW.trod_struct Try.underlying23 hf
  have cI : Try.prog.cellsOf 3 = 1 := by kernel_rfl
  have cJ : Try.prog.cellsOf 2 = 1 := by kernel_rfl
  have cS : Try.prog.cellsOf 9 = 1 := by kernel_rfl
  have cT : Try.prog.cellsOf 23 = 7 := by kernel_rfl
  rw [cT] at hlen
  match ys, hyl, l, hlen with
  | [y0, y1, y2, y3, y4, y5, y6], _, [v0, v1, v2, v3, v4, v5, v6], _ =>
    have t0 := hfl 0 _ rfl
    have t1 := hfl 1 _ rfl
    have t2 := hfl 2 _ rfl
    have t3 := hfl 3 _ rfl
    have t4 := hfl 4 _ rfl
    have t5 := hfl 5 _ rfl
    have t6 := hfl 6 _ rfl
    simp [cI, cJ, cS] at t0 t1 t2 t3 t4 t5 t6
    obtain ⟨n0, e0, _, f0⟩ := DataW.trod_int Try.underlying3 t0
    obtain ⟨n1, e1, _, f1⟩ := DataW.trod_int Try.underlying3 t1
    obtain ⟨n2, e2, _, f2⟩ := DataW.trod_int Try.underlying2 t2
    obtain ⟨n3, e3, _, f3⟩ := DataW.trod_int Try.underlying2 t3
    obtain ⟨n4, e4, _, f4⟩ := DataW.trod_int Try.underlying3 t4
    obtain ⟨n5, e5, _, f5⟩ := DataW.trod_int Try.underlying3 t5
    obtain ⟨n6, e6, g6, f6⟩ := DataW.trod_string Try.underlying9 t6
    simp at e0 e1 e2 e3 e4 e5 e6
    subst e0 e1 e2 e3 e4 e5 e6
    have ed : x.1 = DataW.agg ([y0, y1, y2, y3, y4, y5, y6].map (·.1)) := congrArg Prod.fst hdd
    have hb : n6.size ≤ 1048576 := by
      refine bulk_string (H := H) ?_
      have g7 : y6.1 = DataW.lit (.string n6.data.toList) := by rw [g6]
      rw [← g7]
      exact bulk_part (l := [y0, y1, y2, y3, y4, y5, y6].map (·.1)) (by simp) (by rw [← ed]; exact HK.out)
    exact ⟨⟨n0, n1, n2, n3, n4, n5, n6⟩, rfl, ⟨bounds f0, bounds f1, bounds f2, bounds f3, bounds f4, bounds f5, Nat.le_trans hb (by decide)⟩⟩

theorem slice_cells {t e : TypeId} {k : IntKind} {fuel : Nat} {u : Value} {x : DataW H × List MemPlace} (ht : Try.prog.underlying t = some (.slice e)) (he : Try.prog.underlying e = some (.int k)) (hc : Try.prog.cellsOf e = 1)
    (hf : DataW.trod enc Try.prog W 0 (fun _ => true) true fuel t [u] = some x) : ∃ a n c, u = .slice a n c := by
  rcases open_ints ht he hc hf with ⟨hcs, _⟩ | ⟨x, l, c, zs, hcs, _⟩
  · simp at hcs; exact ⟨_, _, _, hcs⟩
  · simp at hcs; exact ⟨_, _, _, hcs⟩

set_option maxRecDepth 100000 in
theorem rec_open {base : Nat} {v : Value} {d : DataW H} {ps : List MemPlace}
    (hval : Value.okWide Try.prog W .any base 26 v) (hd : DataW.Trod enc Try.prog W 0 (fun _ => true) true 26 v d ps) (hk : Rows.uptoBulk d ≤ 1048576) :
    ∃ (k : Int) (o : OpV) (xs : List Int) (va : Value), v = recV k o va ∧ I64 k ∧ o.Ok ∧ I64s xs ∧ xs.length ≤ 1048576 ∧ RdI W va xs := by
  have HK : Hid (Rows.uptoBulk d ≤ 1048576) := hk
  clear hk
  obtain ⟨cs, rfl, hs⟩ := okWide_struct Try.underlying26 hval
  obtain ⟨fuel, hf⟩ := hd
  obtain ⟨ys, kk, hkk, hdd, hlen, hyl, hfl⟩ := DataW.trod_struct Try.underlying26 hf
  have cI : Try.prog.cellsOf 3 = 1 := by kernel_rfl
  have cL : Try.prog.cellsOf 24 = 1 := by kernel_rfl
  have cO : Try.prog.cellsOf 23 = 7 := by kernel_rfl
  have cT : Try.prog.cellsOf 26 = 9 := by kernel_rfl
  rw [cT] at hs
  obtain ⟨l⟩ := cs
  simp at hs
  simp only [Value.cells] at hfl
  match ys, hyl, l, hs with
  | [y0, y1, y2], _, [v0, v1, v2, v3, v4, v5, v6, v7, v8], _ =>
    have t0 := hfl 0 _ rfl
    have t1 := hfl 1 _ rfl
    have t2 := hfl 2 _ rfl
    simp [cI, cL, cO] at t0 t1 t2
    have ed := (Prod.mk.inj hdd).1
    have hp : ∀ y ∈ [y0, y1, y2], Rows.uptoBulk y.1 ≤ 1048576 := fun y hy => bulk_part (l := [y0, y1, y2].map (·.1)) (List.mem_map.2 ⟨y, hy, rfl⟩) (by rw [← ed]; exact HK.out)
    obtain ⟨n0, e0, _, f0⟩ := DataW.trod_int Try.underlying3 t0
    obtain ⟨o, eo, oo⟩ := op_cells t1 (hp y1 (by simp))
    obtain ⟨a, n, c, rfl⟩ := slice_cells Try.underlying24 Try.underlying3 (by kernel_rfl) t2
    obtain ⟨zs, hz1, hz2, hz3, hz4⟩ := ints_open (a := a) (len := n) (cap := c) (d := y2.1) (ps := y2.2) Try.underlying24 Try.underlying3 (by kernel_rfl) ⟨_, t2⟩
    simp at e0 eo
    obtain ⟨rfl, rfl, rfl, rfl, rfl, rfl, rfl⟩ := eo
    subst e0
    have hb := bulk_slice hz4
    have hb2 := hp y2 (by simp)
    exact ⟨n0, o, zs, .slice a n c, rfl, bounds f0, oo, fun x hx => bounds (hz3 x hx), by omega, hz2⟩
end
end Go.Proofs.Ytdbjjeaflfoppaa
