/-
  Ours: the table of words that a row lists, as the walks ask it; the script that came in, opened.
-/
import Derived.Test.YtmbbigkpeefjjabDoorWirRow
import Derived.Test.YtmbbigkpeefjjabDoorCoEx0
import Derived.Test.YtmbbigkpeefjjabDoorCoOpU
import Derived.Test.YtmbbigkpeefjjabDoorTie
import Derived.Test.YtmbbigkpeefjjabDoorCards
import Derived.Lib.LaidTab
import Derived.ChangeArms
import Derived.Deep.DeepHandedRow
import Derived.MakeChecks
import Derived.LaidHandle
namespace Go.Proofs.YtmbbigkpeefjjabDoor
open Go.ChangeShapes Go.WideShapes Go.ChangeAt Go.RowKit LedM PolM CoM

theorem gW : Tryd.prog.globalNamed "arrears/collect.words" = some 0 := by kernel_rfl
theorem tyW : (Tryd.prog.globals[0]?).map (·.type) = some 48 := by kernel_rfl
theorem tabW_cells {W : World} {cs : List Value} {fuel : Nat} {ps : List MemPlace} {enc : TypeId × Value → Unit} {p : Nat → Bool} {q : Bool}
    (hd : DataW.trod enc Tryd.prog W 0 p q fuel 48 cs = some (Rows.laid_arrears_collect_words, ps)) : ∀ n, n < 10 → cs[n]? = some (.string (wdB n)) := by
  obtain ⟨xs, m, rfl, hx, hl, hn, hf⟩ := DataW.trod_array Tryd.underlying48 hd
  have cR : Tryd.prog.cellsOf 9 = 1 := by kernel_rfl
  simp only [cR, Nat.mul_one] at hf
  have hxs : xs.map (·.1) = (List.range 10).map (fun n => DataW.lit (.string (wdB n).data.toList)) := by
    have := congrArg Prod.fst hx
    have e : Rows.laid_arrears_collect_words = DataW.agg (H := Unit) ((List.range 10).map (fun n => DataW.lit (.string (wdB n).data.toList))) := rfl
    rw [e] at this
    injection this with this
    exact this.symm
  intro n hn6
  have f0 := hf n hn6
  rw [List.getElem?_eq_getElem (by omega)] at f0
  obtain ⟨s, hc, hb, _⟩ := DataW.trod_string Tryd.underlying9 f0
  have h1 : cs[n]? = some (.string s) := by
    have := congrArg (·[0]?) hc
    simpa using this
  have h2 : (xs.map (·.1))[n]? = some (DataW.lit (.string s.data.toList)) := by
    rw [List.getElem?_map, List.getElem?_eq_getElem (by omega), hb]; rfl
  rw [hxs] at h2
  rw [List.getElem?_map, List.getElem?_range hn6] at h2
  simp only [Option.map_some, Option.some.injEq] at h2
  injection h2 with h2
  injection h2 with h2
  rw [h1]
  have e : s = wdB n := by
    cases s with
    | mk d =>
      cases hw : wdB n with
      | mk d' =>
        rw [hw] at h2
        have := Array.toList_inj.1 h2.symm
        exact congrArg ByteArray.mk this
  rw [e]
abbrev lstD : List (String × DataW Unit) := [("arrears/collect.words", Rows.laid_arrears_collect_words)]
theorem tabW_met {W : World} (h : laidMet Tryd.prog lstD W) : TabW W := by
  obtain ⟨ps, ⟨g', t', cs, fuel, p, q, hg', ht', hvar, hd, _, _⟩, _⟩ := h
  obtain rfl := Option.some.inj (gW.symm.trans hg')
  obtain rfl := Option.some.inj (tyW.symm.trans ht')
  have key := tabW_cells hd
  intro n hn
  rw [World.var?_cell gW hvar n]
  simpa using key n hn
theorem tabD_of {W : World} (h : laidMetH Tryd.prog lstD W) : TabW W := tabW_met h
/-- A world for the witness: the table as its initialiser lays it. -/
noncomputable def laidWorld (os : Os) : World :=
  { World.holding Tryd.prog os ⟨#[], #[], []⟩ with heap := (World.holding Tryd.prog os ⟨#[], #[], []⟩).heap.modify 0 fun
      | .cells _ t frozen => .cells #[.string (wdB 0), .string (wdB 1), .string (wdB 2), .string (wdB 3), .string (wdB 4), .string (wdB 5), .string (wdB 6), .string (wdB 7), .string (wdB 8), .string (wdB 9)] t frozen
      | o => o }
section
variable {H : Type} {enc : TypeId × Value → H} {W : World}
set_option maxRecDepth 100000 in
theorem op_cells {fuel : Nat} {l : List Value} {x : DataW H × List MemPlace} (hf : DataW.trod enc Tryd.prog W 0 (fun _ => true) true fuel 39 l = some x) :
    ∃ o : Ox, l = opL o := by
  obtain ⟨ys, kk, hkk, hdd, hlen, hyl, hfl⟩ := DataW.trod_struct Tryd.underlying39 hf
  have cI : Tryd.prog.cellsOf 3 = 1 := by kernel_rfl
  have cB : Tryd.prog.cellsOf 4 = 1 := by kernel_rfl
  have cE : Tryd.prog.cellsOf 37 = 4 := by kernel_rfl
  have cT : Tryd.prog.cellsOf 39 = 13 := by kernel_rfl
  rw [cT] at hlen
  match ys, hyl, l, hlen with
  | [y0, y1, y2, y3, y4, y5, y6], _, [v0, v1, v2, v3, v4, v5, v6, v7, v8, v9, v10, v11, v12], _ =>
    have t0 := hfl 0 _ rfl
    have t1 := hfl 1 _ rfl
    have t2 := hfl 2 _ rfl
    have t3 := hfl 3 _ rfl
    have t4 := hfl 4 _ rfl
    have t5 := hfl 5 _ rfl
    have t6 := hfl 6 _ rfl
    simp [cI, cB, cE] at t0 t1 t2 t3 t4 t5 t6
    obtain ⟨e0, q0, _⟩ := ev_cells t0
    obtain ⟨b1, q1, _⟩ := DataW.trod_bool Tryd.underlying4 t1
    obtain ⟨b2, q2, _⟩ := DataW.trod_bool Tryd.underlying4 t2
    obtain ⟨b3, q3, _⟩ := DataW.trod_bool Tryd.underlying4 t3
    obtain ⟨b4, q4, _⟩ := DataW.trod_bool Tryd.underlying4 t4
    obtain ⟨n5, q5, _, _⟩ := DataW.trod_int Tryd.underlying3 t5
    obtain ⟨e6, q6, _⟩ := ev_cells t6
    simp only [evL, List.cons.injEq, and_true] at q0 q1 q2 q3 q4 q5 q6
    obtain ⟨a0, a1, a2, a3⟩ := q0
    obtain ⟨c0, c1, c2, c3⟩ := q6
    subst a0 a1 a2 a3 q1 q2 q3 q4 q5 c0 c1 c2 c3
    exact ⟨⟨e0, b1, b2, b3, b4, n5, e6⟩, rfl⟩
set_option maxRecDepth 100000 in
theorem script_open {s : Option Addr} {n c : Nat} {d : DataW H} {ps : List MemPlace} (h : DataW.Trod enc Tryd.prog W 0 (fun _ => true) true 25 (.slice s n c) d ps) (hk : Rows.uptoBulk d ≤ 1048576) :
    ∃ es : List Ox, es.length = n ∧ RdO W (.slice s n c) es ∧ True ∧ es.length ≤ 1048576 := by
  obtain ⟨fuel, hf⟩ := h
  rcases Go.Deep.open_slice Tryd.underlying25 hf with ⟨hcs, _⟩ | ⟨a, len, cap, m, q, D, Pl, hcs, _, hl, hm, hmm, hd, hx⟩
  · simp [Value.cells] at hcs
    obtain ⟨rfl, rfl, rfl⟩ := hcs
    exact ⟨[], rfl, ⟨none, 0, rfl, Nat.le_refl _, fun i hi => by simp at hi⟩, trivial, by simp⟩
  · simp [Value.cells] at hcs
    obtain ⟨rfl, rfl, rfl⟩ := hcs
    have ce : Tryd.prog.cellsOf 39 = 13 := by kernel_rfl
    rw [ce] at hx
    simp only [if_true] at hmm
    have hd1 : d = .slice ((List.range n).map D) ((List.range (m - n)).map fun j => D (n + j)) := congrArg Prod.fst hd
    have hn : n ≤ 1048576 := by
      have h1 := bulk_len ((List.range n).map D)
      rw [List.length_map, List.length_range] at h1
      rw [hd1] at hk
      simp only [Rows.uptoBulk] at hk
      omega
    obtain ⟨b, off, spot⟩ := a
    by_cases h0 : n = 0
    · subst h0
      exact ⟨[], rfl, ⟨_, c, rfl, Nat.zero_le _, fun i hi => by simp at hi⟩, trivial, by simp⟩
    have hspot : spot = none := by
      obtain ⟨cs', g1, _⟩ := hx 0 (by omega)
      obtain ⟨_, hlen, hcell⟩ := World.cells?_some g1
      have := hcell 0 (by omega)
      rw [List.getElem?_eq_getElem (by omega)] at this
      simpa [Addr.add] using World.cell?_spot this
    subst hspot
    refine ⟨List.replicate n ⟨ez, false, false, false, false, 0, ez⟩, by simp, ⟨some ⟨b, off, none⟩, c, by simp, by simpa using hl, fun i hi => ?_⟩, trivial, by simpa using hn⟩
    have hin : i < n := by simpa using hi
    obtain ⟨cs', g1, g2⟩ := hx i (by omega)
    obtain ⟨_, hlen, hcell⟩ := World.cells?_some g1
    obtain ⟨o, rfl⟩ := op_cells g2
    have r : W.rangeAt b (off + i * 13) (opL o) := fun j u hj => by
      have hj3 : j < 13 := (List.getElem?_eq_some_iff.1 hj).1
      have := hcell j hj3
      rw [addr_litC, addr_litC] at this
      rw [this]; exact hj
    exact ⟨o, b, off, rfl, World.block_lt_of_cell? W _ (r 0 _ rfl), r⟩
end
end Go.Proofs.YtmbbigkpeefjjabDoor
