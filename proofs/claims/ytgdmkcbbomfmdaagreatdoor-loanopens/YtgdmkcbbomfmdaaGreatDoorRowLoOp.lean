/-
  Ours, in the frame of the given toy: the row and the card of LoanOpens from its walk.
-/
import Derived.Test.YtgdmkcbbomfmdaaGreatDoorWirRow
import Derived.Test.YtgdmkcbbomfmdaaGreatDoorLedBal
import Derived.Test.YtgdmkcbbomfmdaaGreatDoorCalNum
import Derived.Test.YtgdmkcbbomfmdaaGreatDoorPolChk
import Derived.Test.YtgdmkcbbomfmdaaGreatDoorTie
import Derived.Test.YtgdmkcbbomfmdaaGreatDoorCards
import Derived.Lib.LaidTab
import Derived.ChangeArms
import Derived.OpenShut
import Derived.Deep.Slices
import Derived.SizedLaws
import Derived.Deep.DeepHandedRow
import Derived.MakeChecks
import Derived.LaidHandle
import Derived.Test.YtgdmkcbbomfmdaaGreatDoorLoWlk
namespace Go.Proofs.YtgdmkcbbomfmdaaGreatDoor
open Go.ChangeShapes Go.WideShapes Go.ChangeAt Go.RowKit CalM LedM PolM
set_option linter.unusedSimpArgs false

theorem gD : Tryz.prog.globalNamed "arrears/ledger.debits" = some 0 := by kernel_rfl
theorem tyD : (Tryz.prog.globals[0]?).map (·.type) = some 141 := by kernel_rfl
abbrev lstO : List (String × DataW Unit) := [("arrears/ledger.debits", Rows.laid_arrears_ledger_debits), ("arrears/calendar.lengths", Rows.laid_arrears_calendar_lengths), ("arrears/calendar.ahead", Rows.laid_arrears_calendar_ahead)]
theorem tabD_met3 {W : World} (h : laidMet Tryz.prog lstO W) : TabD W := by
  obtain ⟨ps, ⟨g', t', cs, fuel, p, q, hg', ht', hvar, hd, _, _⟩, _⟩ := h
  obtain rfl := Option.some.inj (gD.symm.trans hg')
  obtain rfl := Option.some.inj (tyD.symm.trans ht')
  obtain ⟨xs, m, rfl, hx, hl, hn, hf⟩ := DataW.trod_array Tryz.underlying141 hd
  have cB : Tryz.prog.cellsOf 4 = 1 := by kernel_rfl
  have cT : Tryz.prog.cellsOf 141 = 12 := by kernel_rfl
  rw [cT] at hl
  simp only [cB, Nat.mul_one] at hf
  have hxs : xs.map (·.1) = [.lit (.bool true), .lit (.bool true), .lit (.bool true), .lit (.bool true), .lit (.bool false), .lit (.bool false), .lit (.bool false), .lit (.bool false), .lit (.bool false), .lit (.bool true), .lit (.bool false), .lit (.bool true)] := by
    have := congrArg Prod.fst hx
    simpa [Rows.laid_arrears_ledger_debits] using this.symm
  intro k hk
  have c0 := World.var?_cell gD hvar k
  have f0 := hf k hk
  rw [List.getElem?_eq_getElem (by omega)] at f0
  obtain ⟨b, hc, hb⟩ := DataW.trod_bool Tryz.underlying4 f0
  have h1 : cs[k]? = some (.bool b) := by
    have := congrArg (·[0]?) hc
    simpa [List.getElem?_take, List.getElem?_drop] using this
  have h2 : (xs.map (·.1))[k]? = some (DataW.lit (.bool b)) := by
    rw [List.getElem?_map, List.getElem?_eq_getElem (by omega), hb]; rfl
  rw [hxs] at h2
  have h3 : W.cell? ⟨0, k, none⟩ = some (.bool b) := by rw [c0]; simpa using h1
  rw [h3]
  have : k = 0 ∨ k = 1 ∨ k = 2 ∨ k = 3 ∨ k = 4 ∨ k = 5 ∨ k = 6 ∨ k = 7 ∨ k = 8 ∨ k = 9 ∨ k = 10 ∨ k = 11 := by omega
  rcases this with e | e | e | e | e | e | e | e | e | e | e | e <;> subst e <;> (simp at h2; subst h2; rfl)
theorem tabO_of {W : World} (h : laidMetH Tryz.prog lstO W) : TabD W ∧ TabA W ∧ TabL W := by
  rw [Go.MakeChecks.laidMetH_plain _ _ _ (by kernel_rfl)] at h
  exact ⟨tabD_met3 h, tabA_is (Lib.tabIs_of_head (zs := aheadT) gA tyA Tryz.underlying155 Tryz.underlying3 cellsI cellsT h.tail.tail), tabL_is (Lib.tabIs_of_head (zs := lengthT) gL tyL Tryz.underlying155 Tryz.underlying3 cellsI cellsT h.tail)⟩
noncomputable def layC (w : World) (g : Nat) (cs : Array Value) : World :=
  { w with heap := w.heap.modify g fun
      | .cells _ t frozen => .cells cs t frozen
      | o => o }
/-- A world for the witness: the tables as their initialisers lay them. -/
noncomputable def laidWorld (os : Os) : World :=
  layC (layC (layC (World.holding Tryz.prog os ⟨#[], #[], []⟩) 0 #[.bool true, .bool true, .bool true, .bool true, .bool false, .bool false, .bool false, .bool false, .bool false, .bool true, .bool false, .bool true])
    2 #[.int .i64 0, .int .i64 31, .int .i64 28, .int .i64 31, .int .i64 30, .int .i64 31, .int .i64 30, .int .i64 31, .int .i64 31, .int .i64 30, .int .i64 31, .int .i64 30, .int .i64 31])
    1 #[.int .i64 0, .int .i64 0, .int .i64 31, .int .i64 59, .int .i64 90, .int .i64 120, .int .i64 151, .int .i64 181, .int .i64 212, .int .i64 243, .int .i64 273, .int .i64 304, .int .i64 334]

section
variable {H : Type} {enc : TypeId × Value → H} {W : World}
theorem slice_cellsL {t e : TypeId} {k : IntKind} {fuel : Nat} {v : Value} {x : DataW H × List MemPlace} (ht : Tryz.prog.underlying t = some (.slice e)) (he : Tryz.prog.underlying e = some (.int k)) (hc : Tryz.prog.cellsOf e = 1)
    (h : DataW.trod enc Tryz.prog W 0 (fun _ => true) true fuel t [v] = some x) : ∃ a n c, v = .slice a n c := by
  rcases open_ints ht he hc h with ⟨hcs, _⟩ | ⟨x, l, c, zs, hcs, _⟩
  · exact ⟨none, 0, 0, by simpa using hcs⟩
  · exact ⟨some x, l, c, by simpa using hcs⟩
set_option maxRecDepth 100000 in
theorem polo_open {base : Nat} {v : Value} {d : DataW H} {ps : List MemPlace} (hval : Value.okWide Tryz.prog W .any base 24 v)
    (hd : DataW.Trod enc Tryz.prog W 0 (fun _ => true) true 24 v d ps) : ∃ (l hs : List Int) (a : Option Addr) (n c : Nat), v = .agg (polL l (.slice a n c)).toArray ∧ l.length = 17 ∧ Rd W (.slice a n c) (bkL hs) ∧ ((∀ n ∈ d.weights Tryz.prog 24, n ≤ reachBytes) → hs.length * 8 ≤ 140737488351232) := by
  obtain ⟨cs, rfl, hs⟩ := okWide_struct Tryz.underlying24 hval
  obtain ⟨fuel, hf⟩ := hd
  obtain ⟨ys, kk, hkk, hdx, hlen, hyl, hfl⟩ := DataW.trod_struct Tryz.underlying24 hf
  have cI : Tryz.prog.cellsOf 3 = 1 := by kernel_rfl
  have cJ : Tryz.prog.cellsOf 2 = 1 := by kernel_rfl
  have cS : Tryz.prog.cellsOf 22 = 1 := by kernel_rfl
  have cT : Tryz.prog.cellsOf 24 = 18 := by kernel_rfl
  rw [cT] at hs
  obtain ⟨l⟩ := cs
  simp at hs
  simp only [Value.cells] at hfl
  match ys, hyl, l, hs with
  | [y0, y1, y2, y3, y4, y5, y6, y7, y8, y9, y10, y11, y12, y13, y14, y15, y16, y17], _, [v0, v1, v2, v3, v4, v5, v6, v7, v8, v9, v10, v11, v12, v13, v14, v15, v16, v17], _ =>
    have t0 := hfl 0 _ rfl
    have t1 := hfl 1 _ rfl
    have t2 := hfl 2 _ rfl
    have t3 := hfl 3 _ rfl
    have t4 := hfl 4 _ rfl
    have t5 := hfl 5 _ rfl
    have t6 := hfl 6 _ rfl
    have t7 := hfl 7 _ rfl
    have t8 := hfl 8 _ rfl
    have t9 := hfl 9 _ rfl
    have t10 := hfl 10 _ rfl
    have t11 := hfl 11 _ rfl
    have t12 := hfl 12 _ rfl
    have t13 := hfl 13 _ rfl
    have t14 := hfl 14 _ rfl
    have t15 := hfl 15 _ rfl
    have t16 := hfl 16 _ rfl
    have t17 := hfl 17 _ rfl
    simp [cI, cJ, cS] at t0 t1 t2 t3 t4 t5 t6 t7 t8 t9 t10 t11 t12 t13 t14 t15 t16 t17
    obtain ⟨n0, e0, _, f0⟩ := DataW.trod_int Tryz.underlying3 t0
    obtain ⟨n1, e1, _, f1⟩ := DataW.trod_int Tryz.underlying3 t1
    obtain ⟨n2, e2, _, f2⟩ := DataW.trod_int Tryz.underlying3 t2
    obtain ⟨n3, e3, _, f3⟩ := DataW.trod_int Tryz.underlying3 t3
    obtain ⟨n4, e4, _, f4⟩ := DataW.trod_int Tryz.underlying2 t4
    obtain ⟨n5, e5, _, f5⟩ := DataW.trod_int Tryz.underlying2 t5
    obtain ⟨n6, e6, _, f6⟩ := DataW.trod_int Tryz.underlying2 t6
    obtain ⟨n7, e7, _, f7⟩ := DataW.trod_int Tryz.underlying2 t7
    obtain ⟨n8, e8, _, f8⟩ := DataW.trod_int Tryz.underlying2 t8
    obtain ⟨n9, e9, _, f9⟩ := DataW.trod_int Tryz.underlying3 t9
    obtain ⟨n10, e10, _, f10⟩ := DataW.trod_int Tryz.underlying3 t10
    obtain ⟨n11, e11, _, f11⟩ := DataW.trod_int Tryz.underlying3 t11
    obtain ⟨n12, e12, _, f12⟩ := DataW.trod_int Tryz.underlying3 t12
    obtain ⟨n13, e13, _, f13⟩ := DataW.trod_int Tryz.underlying3 t13
    obtain ⟨n14, e14, _, f14⟩ := DataW.trod_int Tryz.underlying3 t14
    obtain ⟨n15, e15, _, f15⟩ := DataW.trod_int Tryz.underlying3 t15
    obtain ⟨n16, e16, _, f16⟩ := DataW.trod_int Tryz.underlying3 t16
    obtain ⟨a, nn, cc, rfl⟩ := slice_cellsL Tryz.underlying22 Tryz.underlying3 (by kernel_rfl) t17
    obtain ⟨bs, l1, r1, w1, dd⟩ := ints_open (a := a) (len := nn) (cap := cc) (d := y17.1) (ps := y17.2) Tryz.underlying22 Tryz.underlying3 (by kernel_rfl) ⟨_, t17⟩
    simp at e0 e1 e2 e3 e4 e5 e6 e7 e8 e9 e10 e11 e12 e13 e14 e15 e16
    subst e0 e1 e2 e3 e4 e5 e6 e7 e8 e9 e10 e11 e12 e13 e14 e15 e16
    refine ⟨[n0, n1, n2, n3, n4, n5, n6, n7, n8, n9, n10, n11, n12, n13, n14, n15, n16], bs, a, nn, cc, rfl, rfl, r1, fun hw => ?_⟩
    · rcases dd with ⟨_, e⟩ | ⟨elems, spare, e0, e1, e2⟩
      · rw [l1, e]; omega
      · have hd' : d = .agg ([y0, y1, y2, y3, y4, y5, y6, y7, y8, y9, y10, y11, y12, y13, y14, y15, y16, y17].map (·.1)) := congrArg Prod.fst hdx
        have := hw ((elems.length + spare.length) * Tryz.prog.bytesOf 3) (by
          rw [hd']
          simp only [DataW.weights, Tryz.underlying24]
          refine DataW.weights_mem_each (j := 17) (t := 22) (d := y17.1) rfl rfl _ ?_
          rw [e0]
          simp [DataW.weights, Tryz.underlying22])
        have e8 : Tryz.prog.bytesOf 3 = 8 := by kernel_rfl
        rw [e8] at this; unfold reachBytes at this; omega
set_option maxRecDepth 100000 in
theorem termso_open {base : Nat} {v : Value} {d : DataW H} {ps : List MemPlace}
    (hval : Value.okWide Tryz.prog W .any base 26 v) (hd : DataW.Trod enc Tryz.prog W 0 (fun _ => true) true 26 v d ps) :
    ∃ kind P r n start rule, v = .agg #[.int .i64 kind, .int .i64 P, .int .i64 r, .int .i64 n, .int .i64 start, .int .i64 rule] ∧ i64 P := by
  obtain ⟨cs, rfl, hs⟩ := okWide_struct Tryz.underlying26 hval
  obtain ⟨fuel, hf⟩ := hd
  obtain ⟨ys, kk, hkk, _, hlen, hyl, hfl⟩ := DataW.trod_struct Tryz.underlying26 hf
  have cI : Tryz.prog.cellsOf 3 = 1 := by kernel_rfl
  have cJ : Tryz.prog.cellsOf 2 = 1 := by kernel_rfl
  have cT : Tryz.prog.cellsOf 26 = 6 := by kernel_rfl
  rw [cT] at hs
  obtain ⟨l⟩ := cs
  simp at hs
  simp only [Value.cells] at hfl
  match ys, hyl, l, hs with
  | [y0, y1, y2, y3, y4, y5], _, [v0, v1, v2, v3, v4, v5], _ =>
    have t0 := hfl 0 _ rfl
    have t1 := hfl 1 _ rfl
    have t2 := hfl 2 _ rfl
    have t3 := hfl 3 _ rfl
    have t4 := hfl 4 _ rfl
    have t5 := hfl 5 _ rfl
    simp [cI, cJ] at t0 t1 t2 t3 t4 t5
    obtain ⟨n0, e0, _, f0⟩ := DataW.trod_int Tryz.underlying3 t0
    obtain ⟨n1, e1, _, f1⟩ := DataW.trod_int Tryz.underlying2 t1
    obtain ⟨n2, e2, _, f2⟩ := DataW.trod_int Tryz.underlying2 t2
    obtain ⟨n3, e3, _, f3⟩ := DataW.trod_int Tryz.underlying3 t3
    obtain ⟨n4, e4, _, f4⟩ := DataW.trod_int Tryz.underlying3 t4
    obtain ⟨n5, e5, _, f5⟩ := DataW.trod_int Tryz.underlying3 t5
    simp at e0 e1 e2 e3 e4 e5
    subst e0 e1 e2 e3 e4 e5
    exact ⟨n0, n1, n2, n3, n4, n5, rfl, bounds f1⟩
end
end Go.Proofs.YtgdmkcbbomfmdaaGreatDoor

namespace Go.Proofs.YtgdmkcbbomfmdaaGreatDoor.loanOpens
open Go.ChangeShapes Go.WideShapes Go.ChangeAt Go.RowKit

set_option maxRecDepth 100000 in
theorem contract (H : Type) (enc : TypeId × Value → H) (W : World) (base : Nat) (args : Array Value) (ds gs : List (DataW H)) (before : List MemPlace)
    (hval : ∀ (j : Nat) t v, Tryz.f3.params[j]? = some t → args[j]? = some v → Value.okWide Tryz.prog W .any base t v)
    (hW : DataW.Whole enc Tryz.prog Tryz.f3.params.toList Rows.loanOpensSpec.vars false W args.toList ds gs before) (hL : laidMetH Tryz.prog lstO W) (hsz : (DataW.weightsEach Tryz.prog (Tryz.f3.params.toList ++ (OpenSpec.ofChange Rows.loanOpensSpec).bare.plain.varTypes Tryz.prog) (ds ++ gs)).all (· ≤ reachBytes) = true) :
    Calls Tryz.prog 3 args W fun e W' => ∃ v, e = .returned v ∧ Rows.loanOpensSpec.post enc Tryz.prog Tryz.f3 false true false false W args v W' := by
  obtain ⟨hT, hTA, hTL⟩ := tabO_of hL
  have hW' := hW
  obtain ⟨p, q, hA0, hV, rfl, hfz, hnd⟩ := hW
  have hA : DataW.TrodAll enc Tryz.prog W 0 (fun _ => true) true Tryz.f3.params.toList args.toList ds p := hA0
  rw [Tryz.params3] at hA hval
  have hAll := hA
  have wq : ∀ (j : Nat) (t : TypeId) (d : DataW H), (Tryz.f3.params.toList ++ (OpenSpec.ofChange Rows.loanOpensSpec).bare.plain.varTypes Tryz.prog)[j]? = some t → (ds ++ gs)[j]? = some d → ∀ n ∈ d.weights Tryz.prog t, n ≤ reachBytes := fun j t d h1 h2 n hn => by
    have := List.all_eq_true.1 hsz n (DataW.weights_mem_each (j := j) (t := t) (d := d) h1 h2 n hn); simpa using this
  obtain ⟨v0, vs0, d0, ds0, p0, q0, hargs, rfl, rfl, h0, r0⟩ := trodAll_cons hA
  obtain ⟨v1, vs1, d1, ds1, p1, q1, rfl, rfl, rfl, h1, r1⟩ := trodAll_cons r0
  obtain ⟨v2, vs2, d2, ds2, p2, q2, rfl, rfl, rfl, h2, r2⟩ := trodAll_cons r1
  obtain ⟨rfl, rfl, rfl⟩ := trodAll_nil r2
  obtain rfl : args = #[v0, v1, v2] := by cases args; simp_all
  obtain ⟨rfl, rfl⟩ := trodVars_none hV
  obtain ⟨l0, hs0, a0, n0, c0, rfl, ll0, rd0, hb0⟩ := polo_open (hval 0 24 v0 rfl rfl) h0
  have hl0 := hb0 (wq 0 24 d0 rfl rfl)
  obtain ⟨a1, rfl, rfl, rfl, w1⟩ := open_int Tryz.underlying3 (hval 1 3 v1 rfl rfl) h1
  obtain ⟨k2, P2, r2, n2, s2, u2, rfl, hP2⟩ := termso_open (hval 2 26 v2 rfl rfl) h2
  clear hA0 hA
  refine (loanOpens_any l0 hs0 a0 n0 c0 ll0 a1 k2 P2 r2 n2 s2 u2 W hP2 (by omega) rd0 hT hTA hTL).mono fun e W' ⟨he, bel⟩ => ?_
  subst he
  exact ⟨_, rfl, _, _, _, [], _, [], hW', trodAll_mk1 (shut_bool Tryz.underlying4 _), trodAll_below laidOut bel (by kernel_rfl) hAll, rfl, bel.frame _, fun h => by cases h⟩

theorem laid_met (os : Os) : laidMet Tryz.prog Rows.loanOpensRow.laid ((laidWorld os).forCall (fun _ _ => 0) ⟨#[], #[.agg #[.int .i64 0, .int .i64 0, .int .i64 0, .int .i64 0, .int .i64 0, .int .i64 0, .int .i64 0, .int .i64 0, .int .i64 0, .int .i64 0, .int .i64 0, .int .i64 0, .int .i64 0, .int .i64 0, .int .i64 0, .int .i64 0, .int .i64 0, .slice none 0 0], .int .i64 0, .agg #[.int .i64 0, .int .i64 0, .int .i64 0, .int .i64 0, .int .i64 0, .int .i64 0]], []⟩).memory := laidMet_of_run' 8 (by kernel_rfl) (by kernel_rfl)
theorem reads (os : Os) {H : Type} (enc : TypeId × Value → H) : ∃ places, DataW.whole enc Tryz.prog ((laidWorld os).forCall (fun _ _ => 0) ⟨#[], #[.agg #[.int .i64 0, .int .i64 0, .int .i64 0, .int .i64 0, .int .i64 0, .int .i64 0, .int .i64 0, .int .i64 0, .int .i64 0, .int .i64 0, .int .i64 0, .int .i64 0, .int .i64 0, .int .i64 0, .int .i64 0, .int .i64 0, .int .i64 0, .slice none 0 0], .int .i64 0, .agg #[.int .i64 0, .int .i64 0, .int .i64 0, .int .i64 0, .int .i64 0, .int .i64 0]], []⟩).memory Tryz.f3.params.toList Rows.loanOpensSpec.vars false (#[.agg #[.int .i64 0, .int .i64 0, .int .i64 0, .int .i64 0, .int .i64 0, .int .i64 0, .int .i64 0, .int .i64 0, .int .i64 0, .int .i64 0, .int .i64 0, .int .i64 0, .int .i64 0, .int .i64 0, .int .i64 0, .int .i64 0, .int .i64 0, .slice none 0 0], .int .i64 0, .agg #[.int .i64 0, .int .i64 0, .int .i64 0, .int .i64 0, .int .i64 0, .int .i64 0]] : Array Value).toList 8 = some ([.agg [.lit (.int .i64 0), .lit (.int .i64 0), .lit (.int .i64 0), .lit (.int .i64 0), .lit (.int .i64 0), .lit (.int .i64 0), .lit (.int .i64 0), .lit (.int .i64 0), .lit (.int .i64 0), .lit (.int .i64 0), .lit (.int .i64 0), .lit (.int .i64 0), .lit (.int .i64 0), .lit (.int .i64 0), .lit (.int .i64 0), .lit (.int .i64 0), .lit (.int .i64 0), .nil], .lit (.int .i64 0), .agg [.lit (.int .i64 0), .lit (.int .i64 0), .lit (.int .i64 0), .lit (.int .i64 0), .lit (.int .i64 0), .lit (.int .i64 0)]], [], places) :=
  ⟨[], by kernel_rfl⟩

set_option maxRecDepth 100000 in
theorem lifted (os : Os) (started : os.Started) (H : Type) (enc : TypeId × Value → H) (F : Stop.Interp) :
    ReturnsInHanded {} Tryz.checked os 3 .any ((OpenSpec.ofChange Rows.loanOpensSpec).preRow enc Tryz.prog Tryz.f3 Rows.loanOpensRow.domain false Rows.loanOpensRow.laid) (((OpenSpec.ofChange Rows.loanOpensSpec).at F).post enc Tryz.prog Tryz.f3 false true false false) := by
  obtain ⟨places, hx⟩ := reads os enc
  refine returnsInHanded_of_row (C := Tryz.checked) (s := OpenSpec.ofChange Rows.loanOpensSpec) own started (by kernel_rfl) Tryz.func3
    (witness_row_at (enc := enc) (C := Tryz.checked) false (laidWorld os) #[.agg #[.int .i64 0, .int .i64 0, .int .i64 0, .int .i64 0, .int .i64 0, .int .i64 0, .int .i64 0, .int .i64 0, .int .i64 0, .int .i64 0, .int .i64 0, .int .i64 0, .int .i64 0, .int .i64 0, .int .i64 0, .int .i64 0, .int .i64 0, .slice none 0 0], .int .i64 0, .agg #[.int .i64 0, .int .i64 0, .int .i64 0, .int .i64 0, .int .i64 0, .int .i64 0]] rfl (by kernel_rfl) (by kernel_rfl) (by kernel_rfl)
      (OpenSpec.preRow_of_cond 8 hx (by kernel_rfl) (fun k hk => by cases hk) (by kernel_rfl) (laid_met os))) ?_
  intro W base args ds gs before hval hW _ _ hsz hL _ _
  exact contract H enc W base args ds gs before hval hW hL hsz

theorem over : Rows.LoanOpensSaid :=
  OpenClaim.holds_of_cond 3 Tryz.f3 rfl rfl rfl rfl rfl rfl rfl ⟨rfl, rfl, rfl, rfl, rfl⟩ rfl rfl rfl rfl rfl (by kernel_rfl) Tryz.func3 (by kernel_rfl)
    (of_decide_eq_true (by kernel_rfl)) (by unfold Func.isWrapper; first | (rw [if_pos (by decide +kernel)]; kernel_rfl) | (rw [if_neg (by decide +kernel)]; exact ⟨rfl, rfl⟩))
    (fun os started H enc _ F => by rw [OpenClaim.pre_eq_preRow]; exact lifted os started H enc F)
theorem plain (f : FuncId) (fn : Func) (hf : Tryz.pinned.checked.prog.funcNamed "arrears/arrearslaw14.LoanOpens" = some f) (hfn : Tryz.pinned.checked.prog.funcs[f]? = some fn) :
    true = Tryz.pinned.checked.prog.looks [] ∧ ∀ (j : Nat) t, fn.params[j]? = some t → Tryz.pinned.checked.prog.wantsStandIn t = false := by
  obtain rfl : f = 3 := Option.some.inj ((show Tryz.prog.funcNamed "arrears/arrearslaw14.LoanOpens" = some 3 by kernel_rfl).symm.trans hf) |>.symm
  obtain rfl : fn = Tryz.f3 := (Option.some.inj (Tryz.func3.symm.trans hfn)).symm
  refine ⟨by kernel_rfl, fun j t ht => ?_⟩
  rw [Tryz.params3] at ht
  have hm : t ∈ [24, 3, 26] := by simpa using Array.mem_of_getElem? ht
  have hall : ([24, 3, 26].all fun u => !Tryz.prog.wantsStandIn u) = true := by kernel_rfl
  exact (show Tryz.prog.wantsStandIn t = false by simpa using List.all_eq_true.1 hall t hm)
end Go.Proofs.YtgdmkcbbomfmdaaGreatDoor.loanOpens

namespace Go.Proofs.YtgdmkcbbomfmdaaGreatDoor
theorem loanOpens_card : Rows.LoanOpensCardSaid :=
  Claim7.holds_tied_plain_at .later [] _ _ _ _ loanOpens.over (fun _ h => by cases h) (by kernel_rfl) (fun _ h => by cases h) loanOpens_row_tie rfl ⟨rfl, rfl⟩ (by kernel_rfl) rfl loanOpens.plain (by kernel_rfl)
#print axioms loanOpens_card
end Go.Proofs.YtgdmkcbbomfmdaaGreatDoor
