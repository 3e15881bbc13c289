/-
  Ours: the tables that the rows of letters list, as the walks ask them; a notice that came in, opened.
-/
import Derived.Test.YtpkgdkgbbbbaoaaDoorLbRow
import Derived.Test.YtpkgdkgbbbbaoaaDoorRpRd
import Derived.Test.YtpkgdkgbbbbaoaaDoorTie
import Derived.Test.YtpkgdkgbbbbaoaaDoorCards
import Derived.LaidMore
import Derived.Stop.LaidErr
import Derived.Lib.LaidTab
import Derived.Lib.SmallJoins
import Derived.ChangeArms
import Derived.Deep.DeepHandedRow
import Derived.MakeChecks
import Derived.LaidHandle
namespace Go.Proofs.YtpkgdkgbbbbaoaaDoor
open Go.ChangeShapes Go.WideShapes Go.ChangeAt Go.RowKit CalM RpM

def wrdD (k : Nat) : DataW Unit := .agg [.lit (.string (wrd k).a), .lit (.string (wrd k).b), .lit (.string (wrd k).c), .lit (.bool (wrd k).f)]
theorem laid_wrds : (Rows.laid_arrears_report_wordings : DataW Unit) = .agg ((List.range 10).map wrdD) := by kernel_rfl
theorem gWrd : Tryd.prog.globalNamed "arrears/report.wordings" = some 0 := by kernel_rfl
theorem tyWrd : (Tryd.prog.globals[0]?).map (·.type) = some 34 := by kernel_rfl
section
variable {W : World} {enc : TypeId × Value → Unit} {p : Nat → Bool} {q : Bool}
theorem str_of {fuel : Nat} {cs : List Value} {y : DataW Unit × List MemPlace} (l : List UInt8) (h : DataW.trod enc Tryd.prog W 0 p q fuel 9 cs = some y) (e : y.1 = .lit (.string l)) : cs = [.string ⟨l.toArray⟩] := by
  obtain ⟨s, hc, hb, _⟩ := DataW.trod_string Tryd.underlying9 h
  rw [hb] at e
  injection e with e
  injection e with e
  rw [hc, ← e]
set_option maxRecDepth 100000 in
theorem wrd_cells {fuel : Nat} {cs : List Value} {ps : List MemPlace} (hd : DataW.trod enc Tryd.prog W 0 p q fuel 34 cs = some (Rows.laid_arrears_report_wordings, ps)) :
    ∀ k, k < 10 → cs[k * 4]? = some (.string ⟨(wrd k).a.toArray⟩) ∧ cs[k * 4 + 1]? = some (.string ⟨(wrd k).b.toArray⟩) ∧ cs[k * 4 + 2]? = some (.string ⟨(wrd k).c.toArray⟩) ∧ cs[k * 4 + 3]? = some (.bool (wrd k).f) := by
  obtain ⟨xs, m, rfl, hx, hl, hn, hf⟩ := DataW.trod_array Tryd.underlying34 hd
  have cR : Tryd.prog.cellsOf 33 = 4 := by kernel_rfl
  have cS : Tryd.prog.cellsOf 9 = 1 := by kernel_rfl
  have cB : Tryd.prog.cellsOf 4 = 1 := by kernel_rfl
  have cT : Tryd.prog.cellsOf 34 = 40 := by kernel_rfl
  rw [cT] at hl
  simp only [cR] at hf
  have hxs : xs.map (·.1) = (List.range 10).map wrdD := by
    have := congrArg Prod.fst hx
    rw [laid_wrds] at this
    injection this with this
    exact this.symm
  intro k hk
  have f0 := hf k hk
  rw [List.getElem?_eq_getElem (by omega)] at f0
  obtain ⟨y0, y1, y2, y3, n, e, _, t0, t1, t2, t3⟩ := Go.Joins.trod_struct4 Tryd.underlying33 f0
  have h2 : (xs.map (·.1))[k]? = some (DataW.agg [y0.1, y1.1, y2.1, y3.1]) := by
    rw [List.getElem?_map, List.getElem?_eq_getElem (by omega), e]; rfl
  rw [hxs, List.getElem?_map, List.getElem?_range hk] at h2
  simp only [Option.map_some, Option.some.injEq, wrdD] at h2
  injection h2 with h2
  simp only [List.cons.injEq, and_true] at h2
  obtain ⟨w0, w1, w2, w3⟩ := h2
  simp only [cS, cB] at t0 t1 t2 t3
  have q0 := str_of _ t0 w0.symm
  have q1 := str_of _ t1 w1.symm
  have q2 := str_of _ t2 w2.symm
  obtain ⟨b, q3, hb⟩ := DataW.trod_bool Tryd.underlying4 t3
  rw [hb] at w3
  injection w3 with w3
  injection w3 with w3
  refine ⟨?_, ?_, ?_, ?_⟩
  · have := congrArg (·[0]?) q0
    simp only [List.getElem?_take, List.getElem?_drop] at this
    simpa using this
  · have := congrArg (·[0]?) q1
    simp only [List.getElem?_take, List.getElem?_drop] at this
    simpa using this
  · have := congrArg (·[0]?) q2
    simp only [List.getElem?_take, List.getElem?_drop] at this
    simpa using this
  · have := congrArg (·[0]?) q3
    simp only [List.getElem?_take, List.getElem?_drop] at this
    rw [w3]
    simpa using this
end
set_option maxRecDepth 100000 in
theorem wrd_met {W : World} {r : List (String × DataW Unit)} (h : laidMet Tryd.prog (("arrears/report.wordings", Rows.laid_arrears_report_wordings) :: r) W) : WdW W := by
  obtain ⟨ps, ⟨g', t', cs, fuel, p, q, hg', ht', hvar, hd, _, _⟩, _⟩ := h
  obtain rfl := Option.some.inj (gWrd.symm.trans hg')
  obtain rfl := Option.some.inj (tyWrd.symm.trans ht')
  have key := wrd_cells hd
  refine ⟨fun k hk => ?_, fun k hk => ?_, fun k hk => ?_, fun k hk => ?_⟩
  · rw [World.var?_cell gWrd hvar (k * 4)]
    simpa using (key k hk).1
  · rw [World.var?_cell gWrd hvar (k * 4 + 1)]
    simpa using (key k hk).2.1
  · rw [World.var?_cell gWrd hvar (k * 4 + 2)]
    simpa using (key k hk).2.2.1
  · rw [World.var?_cell gWrd hvar (k * 4 + 3)]
    simpa using (key k hk).2.2.2
abbrev lstD : List (String × DataW Unit) := [("math/bits.deBruijn32tab", Rows.laid_math_bits_deBruijn32tab), ("math/bits.deBruijn64tab", Rows.laid_math_bits_deBruijn64tab), ("internal/strconv.uint64pow10", Rows.laid_internal_strconv_uint64pow10), ("strconv.ErrRange", Rows.laid_strconv_ErrRange), ("strconv.ErrSyntax", Rows.laid_strconv_ErrSyntax), ("arrears/calendar.lengths", Rows.laid_arrears_calendar_lengths), ("arrears/calendar.ahead", Rows.laid_arrears_calendar_ahead), ("arrears/report.wordings", Rows.laid_arrears_report_wordings)]
theorem gR : Tryd.prog.globalNamed "strconv.ErrRange" = some 4 := by kernel_rfl
theorem gS : Tryd.prog.globalNamed "strconv.ErrSyntax" = some 3 := by kernel_rfl
theorem starE : "*" ++ "errors.errorString" = "*errors.errorString" := by decide
theorem rowE (u : TypeId) (h : Tryd.prog.typeName? 3 u = some "*errors.errorString") : u = 102 :=
  typeName_ptr_named (nm := "errors.errorString") (by rw [starE]; kernel_rfl) (by kernel_rfl) (by decide) u (by rw [starE]; exact h)
theorem tabD_of {W : World} (h : laidMetH Tryd.prog lstD W) (hS : W.ShapedOpen Tryd.prog) : RpW W := by
  unfold lstD at h
  rw [Go.MakeChecks.laidMetH_plain _ _ _ (by kernel_rfl)] at h
  have e3 := h.tail.tail
  have e4 := h.tail.tail.tail
  have e5 := h.tail.tail.tail.tail
  have e6 := h.tail.tail.tail.tail.tail
  have e7 := h.tail.tail.tail.tail.tail.tail
  have e8 := h.tail.tail.tail.tail.tail.tail.tail
  refine ⟨Lib.tabIs_of_head (zs := Lib.pow10Tab) gPw (by kernel_rfl) Tryd.underlying93 Tryd.underlying61 (by kernel_rfl) (by kernel_rfl) e3, tabA_is (Lib.tabIs_of_head (zs := aheadT) gA tyA Tryd.underlying71 Tryd.underlying3 cellsI cellsT e7), tabL_is (Lib.tabIs_of_head (zs := lengthT) gL tyL Tryd.underlying71 Tryd.underlying3 cellsI cellsT e6), wrd_met e8, ?_, Tryd.laysM219.s1_3 W hS⟩
  obtain ⟨a0, _, h0, _⟩ := laid_sentinel e4 gR (ti := 54) (by kernel_rfl) Tryd.underlying54 rowE Tryd.underlying102 Tryd.underlying104 rfl rfl Tryd.underlying9 (by kernel_rfl) (by kernel_rfl)
  obtain ⟨a1, _, h1, _⟩ := laid_sentinel e5 gS (ti := 54) (by kernel_rfl) Tryd.underlying54 rowE Tryd.underlying102 Tryd.underlying104 rfl rfl Tryd.underlying9 (by kernel_rfl) (by kernel_rfl)
  exact ⟨⟨_, _, h1⟩, ⟨_, _, h0⟩⟩
section
variable {H : Type} {enc : TypeId × Value → H} {W : World}
set_option maxRecDepth 100000 in
theorem nt_open {base : Nat} {v : Value} {d : DataW H} {ps : List MemPlace} (hval : Value.okWide Tryd.prog W .any base 23 v)
    (hd : DataW.Trod enc Tryd.prog W 0 (fun _ => true) true 23 v d ps) : ∃ n : RpM.Nt, v = ntV n ∧ n.Ok := by
  obtain ⟨cs, rfl, hs⟩ := okWide_struct Tryd.underlying23 hval
  obtain ⟨fuel, hf⟩ := hd
  obtain ⟨ys, kk, hkk, hdx, hlen, hyl, hfl⟩ := DataW.trod_struct Tryd.underlying23 hf
  have cI : Tryd.prog.cellsOf 3 = 1 := by kernel_rfl
  have cL : Tryd.prog.cellsOf 2 = 1 := by kernel_rfl
  have cB : Tryd.prog.cellsOf 4 = 1 := by kernel_rfl
  have cT : Tryd.prog.cellsOf 23 = 6 := by kernel_rfl
  rw [cT] at hs
  obtain ⟨l⟩ := cs
  simp at hs
  simp only [Value.cells] at hfl
  match ys, hyl, l, hs with
  | [y0, y1, y2, y3, y4, y5], _, [v0, v1, v2, v3, v4, v5], _ =>
    have t0 := hfl 0 _ rfl
    have t1 := hfl 1 _ rfl
    have t2 := hfl 2 _ rfl
    have t3 := hfl 3 _ rfl
    have t4 := hfl 4 _ rfl
    have t5 := hfl 5 _ rfl
    simp [cI, cL, cB] at t0 t1 t2 t3 t4 t5
    obtain ⟨n0, e0, _, f0⟩ := DataW.trod_int Tryd.underlying3 t0
    obtain ⟨n1, e1, _, f1⟩ := DataW.trod_int Tryd.underlying3 t1
    obtain ⟨n2, e2, _, f2⟩ := DataW.trod_int Tryd.underlying3 t2
    obtain ⟨n3, e3, _, f3⟩ := DataW.trod_int Tryd.underlying3 t3
    obtain ⟨n4, e4, _, f4⟩ := DataW.trod_int Tryd.underlying2 t4
    obtain ⟨b5, e5, _⟩ := DataW.trod_bool Tryd.underlying4 t5
    simp at e0 e1 e2 e3 e4 e5
    subst e0 e1 e2 e3 e4 e5
    exact ⟨⟨n0, n1, n2, n3, n4, b5⟩, rfl, ⟨bounds f0, bounds f1, bounds f2, bounds f3, bounds f4⟩⟩
theorem bulk_text {s : ByteArray} {d : DataW H} {l : List (DataW H)} (hk : Rows.uptoSmall H l = true) (hd : d ∈ l) (e : d = .lit (.string s.data.toList)) : s.data.toList.length ≤ 1048576 := by
  have h := bulk_bound hk hd
  rw [e] at h
  have := bulk_string (H := H) h
  rw [Array.length_toList]
  exact this
end
/-- A world for the witness: the tables as their initialisers lay them. -/
noncomputable def laidWorld (os : Os) : World := World.doorLaid Tryd.prog 400 os
end Go.Proofs.YtpkgdkgbbbbaoaaDoor
