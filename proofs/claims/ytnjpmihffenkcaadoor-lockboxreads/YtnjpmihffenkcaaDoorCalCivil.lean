/-
  Ours: the contract of calendar.Civil.
-/
import Derived.Test.YtnjpmihffenkcaaDoorCalGo
import Derived.Below
import Derived.Laws.ResultCell
import Derived.Laws.NewBlocks
namespace Go.Proofs.YtnjpmihffenkcaaDoor
open Go.RowKit CalM

/-- The table of the days ahead of each month lies where the program looks it up. -/
def TabA (w : World) : Prop := ∀ m : Int, 1 ≤ m → m ≤ 12 → w.cell? ⟨2, m.toNat, none⟩ = some (.int .i64 (aheadI m))

/-- A return of a struct in a new block and a plain value. -/
theorem bodyPost_cell_tmp {P : Program} {fn : Func} {R : Ending → World → Prop} {a : Act} {w : World} {p u : Tmp} {ty : TypeId} (h : fn.results = #[.cell p ty, .tmp u]) (hdf : a.defers = [])
    (g : Nat) (t : TypeId) (cs : Array Value) (fr : Nat × Nat) (d : TypeDesc) (hp : a.tmps.getD p undef = .pointer (some ⟨g, 0, none⟩)) (hg : w.heap[g]? = some (.cells cs t fr))
    (hu : P.underlying ty = some d) (hd : (match d with | .struct _ | .array _ _ => true | _ => false) = true) (hi : (P.info? ty).map (·.size) = some cs.size)
    (hR : R (.returned (.tuple #[.agg cs, a.tmps.getD u undef])) w) : bodyPost P fn R .ret a w := by
  refine bodyPost_ret_by ?_ hdf hR
  rw [results_cell_tmp h]
  have hp' : a.tmps[p]?.getD undef = .pointer (some ⟨g, 0, none⟩) := by simpa using hp
  simp [hp', asAddr, Result.andThen, run_loadVar_row w g t ty cs fr d hg hu hd hi]

/-- The world w' holds all that w holds. -/
def Up (w w' : World) : Prop := Below w.heap.size w w'
theorem Up.refl (w : World) : Up w w := Below.refl _ _
theorem Up.trans {a b c : World} (h : Up a b) (k : Up b c) : Up a c := Below.trans h (Below.mono k (Below.size h))
theorem Up.alloc {a w : World} (h : Up a w) (o : Obj) : Up a (w.alloc o) := Below.alloc h (Below.size h) o
theorem Up.setCell {a w : World} (h : Up a w) {p : Addr} (hp : a.heap.size ≤ p.block) (u : Value) : Up a (w.setCell p u) := Below.setCell h hp u
theorem Up.cell {w w' : World} (h : Up w w') {a : Addr} {v : Value} (hc : w.cell? a = some v) : w'.cell? a = some v := (Below.cell h (World.block_lt_of_cell? w a hc)).trans hc
theorem TabA.up {w w' : World} (h : TabA w) (u : Up w w') : TabA w' := fun m m1 m2 => u.cell (h m m1 m2)

set_option maxHeartbeats 1000000 in
theorem civil_at (y m k d : Int) (h : Ok y m k) (hd : dA y m + k = d) (w : World) (hA : TabA w) :
    Calls Tryd.prog 34 #[.int .i64 d] w fun e w' => e = .returned (.tuple #[.agg #[.int .i64 y, .int .i64 m, .int .i64 k], .bool true]) ∧ ∃ o, w' = w.alloc o := by
  have hr := day_range h
  rw [hd] at hr
  obtain ⟨d1, d2⟩ := hr
  obtain ⟨y1, y2, m1, m2, k1, k2⟩ := h
  have ey : yearOf d = y := by
    obtain ⟨a1, a2, a3, a4⟩ := yearOf_ok d d1 d2
    have l := dA_low y m m1 m2
    have u := dA_high y m m1 m2
    rcases Int.lt_trichotomy (yearOf d) y with g | g | g
    · have := yA_mono (a := yearOf d + 1) (b := y) (by omega); omega
    · exact g
    · have := yA_mono (a := y + 1) (b := yearOf d) (by omega); omega
  have YO : Hid (∀ w, Calls Tryd.prog 54 #[.int .i64 d] w fun e w' => e = .returned (.int .i64 y) ∧ w' = w) := fun w => yearOf_at d y d1 d2 ey w
  have DA : Hid (∀ (i n : Int) (w : World), TabA w → 1 ≤ i → i ≤ 12 → dA y i = n → Calls Tryd.prog 55 #[.int .i64 y, .int .i64 i] w fun e w' => e = .returned (.int .i64 n) ∧ w' = w) := fun i n w hA i1 i2 hn => daysAhead_at y i n y1 y2 i1 i2 w (hA i i1 i2) hn
  have LT : Hid (∀ i : Int, 1 ≤ i → i < m → dA y (i + 1) < d) := fun i i1 i2 => by
    have e1 := dA_month y i i1 (by omega)
    have := dA_lt y i m i1 i2 m2
    omega
  have GE : Hid (m < 12 → d ≤ dA y (m + 1)) := fun i2 => by
    have e1 := dA_month y m m1 i2
    omega
  have ED : Hid (dA y m + k = d) := hd
  have HA : Hid (TabA w) := hA
  clear hA hd ey k2
  go_enter Tryd.func34, Tryd.ntmps34
  go_wp2_with fail
  refine (isDay_at d true (decide_eq_true ⟨d1, d2⟩) _).mono ?_
  rintro e w1 ⟨rfl, hw⟩; rw [hw]; clear hw w1
  go_wp2_with fail
  refine (YO.out _).mono ?_
  rintro e w1 ⟨rfl, hw⟩; rw [hw]; clear hw w1
  go_wp2_with fail
  have UW : Hid (Up w (w.alloc (.cells #[.int .i64 0, .int .i64 0, .int .i64 0] 50))) := (Up.refl w).alloc _
  have HB : Hid (TabA (w.alloc (.cells #[.int .i64 0, .int .i64 0, .int .i64 0] 50))) := HA.out.up UW.out
  go_loopw [5] (fun ii w' => w' = w.alloc (.cells #[.int .i64 0, .int .i64 0, .int .i64 0] 50) ∧ ∃ i : Int, 1 ≤ i ∧ i ≤ m ∧ ii = .int .i64 i) (fun ii _ => (12 - intOf ii).toNat)
  case atStart => exact ⟨rfl, 1, by omega, m1, rfl⟩
  case round =>
    obtain ⟨rfl, i, i1, i2, rfl⟩ := hrel
    by_cases hi : i < m
    · have t1 : i < 12 := by omega
      have t2 := LT.out i i1 hi
      have D1 : Hid (Calls Tryd.prog 55 #[.int .i64 y, .int .i64 (i + 1)] (w.alloc (.cells #[.int .i64 0, .int .i64 0, .int .i64 0] 50)) fun e w' => e = .returned (.int .i64 (dA y (i + 1))) ∧ w' = (w.alloc (.cells #[.int .i64 0, .int .i64 0, .int .i64 0] 50))) := DA.out (i + 1) _ _ HB.out (by omega) (by omega) rfl
      generalize dA y (i + 1) = x at *
      go_wp2_with fail
      refine D1.out.mono ?_
      rintro e w1 ⟨rfl, hw⟩; rw [hw]; clear hw w1
      go_wp2_with fail
      go_roundw
      case rel => exact ⟨trivial, i + 1, by omega, by omega, rfl⟩
      case measure => simp [intOf]; omega
    · obtain rfl : i = m := by omega
      have D2 : Hid (Calls Tryd.prog 55 #[.int .i64 y, .int .i64 i] (w.alloc (.cells #[.int .i64 0, .int .i64 0, .int .i64 0] 50)) fun e w' => e = .returned (.int .i64 (dA y i)) ∧ w' = (w.alloc (.cells #[.int .i64 0, .int .i64 0, .int .i64 0] 50))) := DA.out i _ _ HB.out (by omega) (by omega) rfl
      have ek : dA y i = d - k := by have := ED.out; omega
      rw [ek] at D2
      have kb : k ≤ d := by have := dA_low y i m1 m2; have h1 : yA 1 = 0 := by decide
                            have := yA_mono (a := 1) (b := y) (by omega); omega
      by_cases t1 : i < 12
      · have t2 : ¬ dA y (i + 1) < d := by have := GE.out t1; omega
        have D1 : Hid (Calls Tryd.prog 55 #[.int .i64 y, .int .i64 (i + 1)] (w.alloc (.cells #[.int .i64 0, .int .i64 0, .int .i64 0] 50)) fun e w' => e = .returned (.int .i64 (dA y (i + 1))) ∧ w' = (w.alloc (.cells #[.int .i64 0, .int .i64 0, .int .i64 0] 50))) := DA.out (i + 1) _ _ HB.out (by omega) (by omega) rfl
        generalize dA y (i + 1) = x at *
        clear ek ED
        go_wp2_with fail
        refine D1.out.mono ?_
        rintro e w1 ⟨rfl, hw⟩; rw [hw]; clear hw w1
        go_wp2_with fail
        refine D2.out.mono ?_
        rintro e w1 ⟨rfl, hw⟩; rw [hw]; clear hw w1
        go_wp2_with fail
        refine bodyPost_cell_tmp rfl rfl w.heap.size _ _ _ _ rfl (heap_alloc_new _ _) Tryd.underlying50 rfl (by kernel_rfl) ⟨?_, _, rfl⟩
        have e1 : d - (d - k) = k := by omega
        rw [e1]; rfl
      · clear ek ED
        go_wp2_with fail
        refine D2.out.mono ?_
        rintro e w1 ⟨rfl, hw⟩; rw [hw]; clear hw w1
        go_wp2_with fail
        refine bodyPost_cell_tmp rfl rfl w.heap.size _ _ _ _ rfl (heap_alloc_new _ _) Tryd.underlying50 rfl (by kernel_rfl) ⟨?_, _, rfl⟩
        have e1 : d - (d - k) = k := by omega
        rw [e1]; rfl
theorem civil_no (d : Int) (h : ¬(1 ≤ d ∧ d ≤ 3652059)) (w : World) :
    Calls Tryd.prog 34 #[.int .i64 d] w fun e w' => e = .returned (.tuple #[.agg #[.int .i64 0, .int .i64 0, .int .i64 0], .bool false]) ∧ ∃ o, w' = w.alloc o := by
  go_enter Tryd.func34, Tryd.ntmps34
  go_wp2_with fail
  refine (isDay_at d false (decide_eq_false h) _).mono ?_
  rintro e w1 ⟨rfl, hw⟩; rw [hw]; clear hw w1
  go_wp2_with fail
  exact bodyPost_cell_tmp rfl rfl w.heap.size _ _ _ _ rfl (heap_alloc_new _ _) Tryd.underlying50 rfl (by kernel_rfl) ⟨rfl, _, rfl⟩

/-- Every day has its date. -/
theorem civil_exists (d : Int) (h1 : 1 ≤ d) (h2 : d ≤ 3652059) : ∃ y m k, Ok y m k ∧ dA y m + k = d := by
  obtain ⟨a1, a2, a3, a4⟩ := yearOf_ok d h1 h2
  generalize yearOf d = y at *
  have key : ∀ n : Nat, n ≤ 11 → (d ≤ dA y ((n : Int) + 1) + lenI y ((n : Int) + 1)) → ∃ m k, Ok y m k ∧ dA y m + k = d := by
    intro n
    induction n with
    | zero =>
      intro _ hd
      refine ⟨1, d - dA y 1, ⟨a1, a2, by omega, by omega, ?_, ?_⟩, by omega⟩
      · rw [dA_one]; omega
      · simp at hd; omega
    | succ n ih =>
      intro hn hd
      by_cases g : dA y (((n + 1 : Nat) : Int) + 1) < d
      · exact ⟨((n + 1 : Nat) : Int) + 1, d - dA y (((n + 1 : Nat) : Int) + 1), ⟨a1, a2, by omega, by omega, by omega, by omega⟩, by omega⟩
      · refine ih (by omega) ?_
        have := dA_month y ((n : Int) + 1) (by omega) (by omega)
        have e : (((n + 1 : Nat) : Int) + 1) = (n : Int) + 1 + 1 := by omega
        rw [e] at g
        omega
  obtain ⟨m, k, h⟩ := key 11 (by omega) (by have := dA_last y; simp; omega)
  exact ⟨y, m, k, h⟩
end Go.Proofs.YtnjpmihffenkcaaDoor
