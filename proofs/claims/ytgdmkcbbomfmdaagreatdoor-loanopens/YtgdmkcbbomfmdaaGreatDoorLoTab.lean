/-
  Ours: the three tables that LoanOpens lists; a policy and terms that came in, opened.
-/
import Derived.Test.YtgdmkcbbomfmdaaGreatDoorLedOwn
import Derived.Test.YtgdmkcbbomfmdaaGreatDoorWirRow
import Derived.Test.YtgdmkcbbomfmdaaGreatDoorCalNum
import Derived.Test.YtgdmkcbbomfmdaaGreatDoorPolPrg
import Derived.Test.YtgdmkcbbomfmdaaGreatDoorTie
import Derived.Test.YtgdmkcbbomfmdaaGreatDoorCards
import Derived.Lib.LaidTab
import Derived.ChangeArms
import Derived.OpenShut
import Derived.Deep.Slices
import Derived.SizedLaws
import Derived.Deep.DeepHandedRow
import Derived.MakeChecks
import Derived.LaidHandle
namespace Go.Proofs.YtgdmkcbbomfmdaaGreatDoor
open Go.RowKit

namespace LedM
/-- The account's own side is the debit side. -/
def isD (a : Int) : Bool := a == 0 || a == 1 || a == 2 || a == 3 || a == 9 || a == 11
def isA (a : Int) : Bool := decide (0 ≤ a) && decide (a < 12)
theorem isD_A {a : Int} (h : isD a = true) : isA a = true := by
  simp [isD] at h
  simp [isA]; omega
theorem a12 {a : Int} (h : isA a = true) : a = 0 ∨ a = 1 ∨ a = 2 ∨ a = 3 ∨ a = 4 ∨ a = 5 ∨ a = 6 ∨ a = 7 ∨ a = 8 ∨ a = 9 ∨ a = 10 ∨ a = 11 := by
  simp [isA] at h; omega
end LedM
open LedM

/-- The table of the sides lies where the program looks it up. -/
def TabD (w : World) : Prop := ∀ k : Nat, k < 12 → w.cell? ⟨0, k, none⟩ = some (.bool (isD (k : Int)))
theorem TabD.later {w w' : World} (h : TabD w) (hb : Below w.heap.size w w') : TabD w' := fun k hk => (hb.cell (p := ⟨0, k, none⟩) (block_lt_of_cell (h k hk))).trans (h k hk)

theorem known_at (a : Int) (w : World) : Calls Tryz.prog 113 #[.int .i64 a] w fun e w' => e = .returned (.bool (isA a)) ∧ w' = w := by
  unfold isA
  by_cases h0 : 0 ≤ a
  · have d0 : decide (0 ≤ a) = true := decide_eq_true h0
    rw [d0, Bool.true_and]
    go_enter Tryz.func113, Tryz.ntmps113
    go_wp2
    go_ret
    exact ⟨rfl, rfl⟩
  · have d0 : decide (0 ≤ a) = false := decide_eq_false h0
    rw [d0, Bool.false_and]
    go_enter Tryz.func113, Tryz.ntmps113
    go_wp2
    go_ret
    exact ⟨rfl, rfl⟩
theorem ris_at (a : Int) (w : World) : Calls Tryz.prog 97 #[.int .i64 a] w fun e w' => e = .returned (.bool (isA a)) ∧ w' = w := by
  unfold isA
  by_cases h0 : 0 ≤ a
  · have d0 : decide (0 ≤ a) = true := decide_eq_true h0
    rw [d0, Bool.true_and]
    go_enter Tryz.func97, Tryz.ntmps97
    go_wp2
    go_ret
    exact ⟨rfl, rfl⟩
  · have d0 : decide (0 ≤ a) = false := decide_eq_false h0
    rw [d0, Bool.false_and]
    go_enter Tryz.func97, Tryz.ntmps97
    go_wp2
    go_ret
    exact ⟨rfl, rfl⟩

theorem rdebits_at (a : Int) (w : World) : Calls Tryz.prog 101 #[.int .i64 a] w fun e w' => e = .returned (.bool (isD a)) ∧ w' = w := by
  unfold isD
  by_cases h0 : a = 0
  · subst h0; go_enter Tryz.func101, Tryz.ntmps101; go_wp2; go_ret; exact ⟨rfl, rfl⟩
  by_cases h1 : a = 1
  · subst h1; go_enter Tryz.func101, Tryz.ntmps101; go_wp2; go_ret; exact ⟨rfl, rfl⟩
  by_cases h2 : a = 2
  · subst h2; go_enter Tryz.func101, Tryz.ntmps101; go_wp2; go_ret; exact ⟨rfl, rfl⟩
  by_cases h3 : a = 3
  · subst h3; go_enter Tryz.func101, Tryz.ntmps101; go_wp2; go_ret; exact ⟨rfl, rfl⟩
  by_cases h9 : a = 9
  · subst h9; go_enter Tryz.func101, Tryz.ntmps101; go_wp2; go_ret; exact ⟨rfl, rfl⟩
  by_cases h11 : a = 11
  · subst h11; go_enter Tryz.func101, Tryz.ntmps101; go_wp2; go_ret; exact ⟨rfl, rfl⟩
  have e0 : (a == 0) = false := beq_eq_false_iff_ne.2 h0
  have e1 : (a == 1) = false := beq_eq_false_iff_ne.2 h1
  have e2 : (a == 2) = false := beq_eq_false_iff_ne.2 h2
  have e3 : (a == 3) = false := beq_eq_false_iff_ne.2 h3
  have e9 : (a == 9) = false := beq_eq_false_iff_ne.2 h9
  have e11 : (a == 11) = false := beq_eq_false_iff_ne.2 h11
  rw [e0, e1, e2, e3, e9, e11]
  clear h0 h1 h2 h3 h9 h11
  go_enter Tryz.func101, Tryz.ntmps101
  go_wp2
  go_ret
  exact ⟨rfl, rfl⟩
end Go.Proofs.YtgdmkcbbomfmdaaGreatDoor

namespace Go.Proofs.YtgdmkcbbomfmdaaGreatDoor
open Go.ChangeShapes Go.WideShapes Go.ChangeAt Go.RowKit CalM LedM PolM
set_option linter.unusedSimpArgs false

theorem gD : Tryz.prog.globalNamed "arrears/ledger.debits" = some 0 := by kernel_rfl
theorem tyD : (Tryz.prog.globals[0]?).map (·.type) = some 141 := by kernel_rfl
abbrev lstO : List (String × DataW Unit) := [("arrears/ledger.debits", Rows.laid_arrears_ledger_debits), ("arrears/calendar.lengths", Rows.laid_arrears_calendar_lengths), ("arrears/calendar.ahead", Rows.laid_arrears_calendar_ahead)]
theorem tabD_met3 {W : World} (h : laidMet Tryz.prog lstO W) : TabD W := by
  obtain ⟨ps, ⟨g', t', cs, fuel, p, q, hg', ht', hvar, hd, _, _⟩, _⟩ := h
  obtain rfl := Option.some.inj (gD.symm.trans hg')
  obtain rfl := Option.some.inj (tyD.symm.trans ht')
  obtain ⟨xs, m, rfl, hx, hl, hn, hf⟩ := DataW.trod_array Tryz.underlying141 hd
  have cB : Tryz.prog.cellsOf 4 = 1 := by kernel_rfl
  have cT : Tryz.prog.cellsOf 141 = 12 := by kernel_rfl
  rw [cT] at hl
  simp only [cB, Nat.mul_one] at hf
  have hxs : xs.map (·.1) = [.lit (.bool true), .lit (.bool true), .lit (.bool true), .lit (.bool true), .lit (.bool false), .lit (.bool false), .lit (.bool false), .lit (.bool false), .lit (.bool false), .lit (.bool true), .lit (.bool false), .lit (.bool true)] := by
    have := congrArg Prod.fst hx
    simpa [Rows.laid_arrears_ledger_debits] using this.symm
  intro k hk
  have c0 := World.var?_cell gD hvar k
  have f0 := hf k hk
  rw [List.getElem?_eq_getElem (by omega)] at f0
  obtain ⟨b, hc, hb⟩ := DataW.trod_bool Tryz.underlying4 f0
  have h1 : cs[k]? = some (.bool b) := by
    have := congrArg (·[0]?) hc
    simpa [List.getElem?_take, List.getElem?_drop] using this
  have h2 : (xs.map (·.1))[k]? = some (DataW.lit (.bool b)) := by
    rw [List.getElem?_map, List.getElem?_eq_getElem (by omega), hb]; rfl
  rw [hxs] at h2
  have h3 : W.cell? ⟨0, k, none⟩ = some (.bool b) := by rw [c0]; simpa using h1
  rw [h3]
  have : k = 0 ∨ k = 1 ∨ k = 2 ∨ k = 3 ∨ k = 4 ∨ k = 5 ∨ k = 6 ∨ k = 7 ∨ k = 8 ∨ k = 9 ∨ k = 10 ∨ k = 11 := by omega
  rcases this with e | e | e | e | e | e | e | e | e | e | e | e <;> subst e <;> (simp at h2; subst h2; rfl)
theorem tabO_of {W : World} (h : laidMetH Tryz.prog lstO W) : TabD W ∧ TabA W ∧ TabL W := by
  rw [Go.MakeChecks.laidMetH_plain _ _ _ (by kernel_rfl)] at h
  exact ⟨tabD_met3 h, tabA_is (Lib.tabIs_of_head (zs := aheadT) gA tyA Tryz.underlying155 Tryz.underlying3 cellsI cellsT h.tail.tail), tabL_is (Lib.tabIs_of_head (zs := lengthT) gL tyL Tryz.underlying155 Tryz.underlying3 cellsI cellsT h.tail)⟩
noncomputable def layC (w : World) (g : Nat) (cs : Array Value) : World :=
  { w with heap := w.heap.modify g fun
      | .cells _ t frozen => .cells cs t frozen
      | o => o }
/-- A world for the witness: the tables as their initialisers lay them. -/
noncomputable def laidWorld (os : Os) : World :=
  layC (layC (layC (World.holding Tryz.prog os ⟨#[], #[], []⟩) 0 #[.bool true, .bool true, .bool true, .bool true, .bool false, .bool false, .bool false, .bool false, .bool false, .bool true, .bool false, .bool true])
    2 #[.int .i64 0, .int .i64 31, .int .i64 28, .int .i64 31, .int .i64 30, .int .i64 31, .int .i64 30, .int .i64 31, .int .i64 31, .int .i64 30, .int .i64 31, .int .i64 30, .int .i64 31])
    1 #[.int .i64 0, .int .i64 0, .int .i64 31, .int .i64 59, .int .i64 90, .int .i64 120, .int .i64 151, .int .i64 181, .int .i64 212, .int .i64 243, .int .i64 273, .int .i64 304, .int .i64 334]

section
variable {H : Type} {enc : TypeId × Value → H} {W : World}
theorem slice_cellsL {t e : TypeId} {k : IntKind} {fuel : Nat} {v : Value} {x : DataW H × List MemPlace} (ht : Tryz.prog.underlying t = some (.slice e)) (he : Tryz.prog.underlying e = some (.int k)) (hc : Tryz.prog.cellsOf e = 1)
    (h : DataW.trod enc Tryz.prog W 0 (fun _ => true) true fuel t [v] = some x) : ∃ a n c, v = .slice a n c := by
  rcases open_ints ht he hc h with ⟨hcs, _⟩ | ⟨x, l, c, zs, hcs, _⟩
  · exact ⟨none, 0, 0, by simpa using hcs⟩
  · exact ⟨some x, l, c, by simpa using hcs⟩
set_option maxRecDepth 100000 in
theorem polo_open {base : Nat} {v : Value} {d : DataW H} {ps : List MemPlace} (hval : Value.okWide Tryz.prog W .any base 24 v)
    (hd : DataW.Trod enc Tryz.prog W 0 (fun _ => true) true 24 v d ps) : ∃ (l hs : List Int) (a : Option Addr) (n c : Nat), v = .agg (polL l (.slice a n c)).toArray ∧ l.length = 17 ∧ Rd W (.slice a n c) (bkL hs) ∧ ((∀ n ∈ d.weights Tryz.prog 24, n ≤ reachBytes) → hs.length * 8 ≤ 140737488351232) := by
  obtain ⟨cs, rfl, hs⟩ := okWide_struct Tryz.underlying24 hval
  obtain ⟨fuel, hf⟩ := hd
  obtain ⟨ys, kk, hkk, hdx, hlen, hyl, hfl⟩ := DataW.trod_struct Tryz.underlying24 hf
  have cI : Tryz.prog.cellsOf 3 = 1 := by kernel_rfl
  have cJ : Tryz.prog.cellsOf 2 = 1 := by kernel_rfl
  have cS : Tryz.prog.cellsOf 22 = 1 := by kernel_rfl
  have cT : Tryz.prog.cellsOf 24 = 18 := by kernel_rfl
  rw [cT] at hs
  obtain ⟨l⟩ := cs
  simp at hs
  simp only [Value.cells] at hfl
  match ys, hyl, l, hs with
  | [y0, y1, y2, y3, y4, y5, y6, y7, y8, y9, y10, y11, y12, y13, y14, y15, y16, y17], _, [v0, v1, v2, v3, v4, v5, v6, v7, v8, v9, v10, v11, v12, v13, v14, v15, v16, v17], _ =>
    have t0 := hfl 0 _ rfl
    have t1 := hfl 1 _ rfl
    have t2 := hfl 2 _ rfl
    have t3 := hfl 3 _ rfl
    have t4 := hfl 4 _ rfl
    have t5 := hfl 5 _ rfl
    have t6 := hfl 6 _ rfl
    have t7 := hfl 7 _ rfl
    have t8 := hfl 8 _ rfl
    have t9 := hfl 9 _ rfl
    have t10 := hfl 10 _ rfl
    have t11 := hfl 11 _ rfl
    have t12 := hfl 12 _ rfl
    have t13 := hfl 13 _ rfl
    have t14 := hfl 14 _ rfl
    have t15 := hfl 15 _ rfl
    have t16 := hfl 16 _ rfl
    have t17 := hfl 17 _ rfl
    simp [cI, cJ, cS] at t0 t1 t2 t3 t4 t5 t6 t7 t8 t9 t10 t11 t12 t13 t14 t15 t16 t17
    obtain ⟨n0, e0, _, f0⟩ := DataW.trod_int Tryz.underlying3 t0
    obtain ⟨n1, e1, _, f1⟩ := DataW.trod_int Tryz.underlying3 t1
    obtain ⟨n2, e2, _, f2⟩ := DataW.trod_int Tryz.underlying3 t2
    obtain ⟨n3, e3, _, f3⟩ := DataW.trod_int Tryz.underlying3 t3
    obtain ⟨n4, e4, _, f4⟩ := DataW.trod_int Tryz.underlying2 t4
    obtain ⟨n5, e5, _, f5⟩ := DataW.trod_int Tryz.underlying2 t5
    obtain ⟨n6, e6, _, f6⟩ := DataW.trod_int Tryz.underlying2 t6
    obtain ⟨n7, e7, _, f7⟩ := DataW.trod_int Tryz.underlying2 t7
    obtain ⟨n8, e8, _, f8⟩ := DataW.trod_int Tryz.underlying2 t8
    obtain ⟨n9, e9, _, f9⟩ := DataW.trod_int Tryz.underlying3 t9
    obtain ⟨n10, e10, _, f10⟩ := DataW.trod_int Tryz.underlying3 t10
    obtain ⟨n11, e11, _, f11⟩ := DataW.trod_int Tryz.underlying3 t11
    obtain ⟨n12, e12, _, f12⟩ := DataW.trod_int Tryz.underlying3 t12
    obtain ⟨n13, e13, _, f13⟩ := DataW.trod_int Tryz.underlying3 t13
    obtain ⟨n14, e14, _, f14⟩ := DataW.trod_int Tryz.underlying3 t14
    obtain ⟨n15, e15, _, f15⟩ := DataW.trod_int Tryz.underlying3 t15
    obtain ⟨n16, e16, _, f16⟩ := DataW.trod_int Tryz.underlying3 t16
    obtain ⟨a, nn, cc, rfl⟩ := slice_cellsL Tryz.underlying22 Tryz.underlying3 (by kernel_rfl) t17
    obtain ⟨bs, l1, r1, w1, dd⟩ := ints_open (a := a) (len := nn) (cap := cc) (d := y17.1) (ps := y17.2) Tryz.underlying22 Tryz.underlying3 (by kernel_rfl) ⟨_, t17⟩
    simp at e0 e1 e2 e3 e4 e5 e6 e7 e8 e9 e10 e11 e12 e13 e14 e15 e16
    subst e0 e1 e2 e3 e4 e5 e6 e7 e8 e9 e10 e11 e12 e13 e14 e15 e16
    refine ⟨[n0, n1, n2, n3, n4, n5, n6, n7, n8, n9, n10, n11, n12, n13, n14, n15, n16], bs, a, nn, cc, rfl, rfl, r1, fun hw => ?_⟩
    · rcases dd with ⟨_, e⟩ | ⟨elems, spare, e0, e1, e2⟩
      · rw [l1, e]; omega
      · have hd' : d = .agg ([y0, y1, y2, y3, y4, y5, y6, y7, y8, y9, y10, y11, y12, y13, y14, y15, y16, y17].map (·.1)) := congrArg Prod.fst hdx
        have := hw ((elems.length + spare.length) * Tryz.prog.bytesOf 3) (by
          rw [hd']
          simp only [DataW.weights, Tryz.underlying24]
          refine DataW.weights_mem_each (j := 17) (t := 22) (d := y17.1) rfl rfl _ ?_
          rw [e0]
          simp [DataW.weights, Tryz.underlying22])
        have e8 : Tryz.prog.bytesOf 3 = 8 := by kernel_rfl
        rw [e8] at this; unfold reachBytes at this; omega
set_option maxRecDepth 100000 in
theorem termso_open {base : Nat} {v : Value} {d : DataW H} {ps : List MemPlace}
    (hval : Value.okWide Tryz.prog W .any base 26 v) (hd : DataW.Trod enc Tryz.prog W 0 (fun _ => true) true 26 v d ps) :
    ∃ kind P r n start rule, v = .agg #[.int .i64 kind, .int .i64 P, .int .i64 r, .int .i64 n, .int .i64 start, .int .i64 rule] ∧ i64 P := by
  obtain ⟨cs, rfl, hs⟩ := okWide_struct Tryz.underlying26 hval
  obtain ⟨fuel, hf⟩ := hd
  obtain ⟨ys, kk, hkk, _, hlen, hyl, hfl⟩ := DataW.trod_struct Tryz.underlying26 hf
  have cI : Tryz.prog.cellsOf 3 = 1 := by kernel_rfl
  have cJ : Tryz.prog.cellsOf 2 = 1 := by kernel_rfl
  have cT : Tryz.prog.cellsOf 26 = 6 := by kernel_rfl
  rw [cT] at hs
  obtain ⟨l⟩ := cs
  simp at hs
  simp only [Value.cells] at hfl
  match ys, hyl, l, hs with
  | [y0, y1, y2, y3, y4, y5], _, [v0, v1, v2, v3, v4, v5], _ =>
    have t0 := hfl 0 _ rfl
    have t1 := hfl 1 _ rfl
    have t2 := hfl 2 _ rfl
    have t3 := hfl 3 _ rfl
    have t4 := hfl 4 _ rfl
    have t5 := hfl 5 _ rfl
    simp [cI, cJ] at t0 t1 t2 t3 t4 t5
    obtain ⟨n0, e0, _, f0⟩ := DataW.trod_int Tryz.underlying3 t0
    obtain ⟨n1, e1, _, f1⟩ := DataW.trod_int Tryz.underlying2 t1
    obtain ⟨n2, e2, _, f2⟩ := DataW.trod_int Tryz.underlying2 t2
    obtain ⟨n3, e3, _, f3⟩ := DataW.trod_int Tryz.underlying3 t3
    obtain ⟨n4, e4, _, f4⟩ := DataW.trod_int Tryz.underlying3 t4
    obtain ⟨n5, e5, _, f5⟩ := DataW.trod_int Tryz.underlying3 t5
    simp at e0 e1 e2 e3 e4 e5
    subst e0 e1 e2 e3 e4 e5
    exact ⟨n0, n1, n2, n3, n4, n5, rfl, bounds f1⟩
end
end Go.Proofs.YtgdmkcbbomfmdaaGreatDoor
