/-
  Ours: contracts of calendar.MonthLen, calendar.Number.
-/
import Derived.Test.YtgdmkcbbomfmdaaGreatDoorCalGo
import Derived.Below
import Derived.Laws.ResultCell
import Derived.Laws.NewBlocks
import Derived.Test.YtgdmkcbbomfmdaaGreatDoorRows
import Derived.Lib.LaidTab
import Derived.MakeChecks
import Derived.LaidHandle
import Derived.Carry
import Derived.Stop.LaidErr
import Derived.Laws.Rows
import Derived.Deep.QuietTactic
import Derived.BigQuiet
import Derived.WalkSmall
namespace Go.Proofs.YtgdmkcbbomfmdaaGreatDoor
open Go.RowKit CalM

/-- The table of the days ahead of each month lies where the program looks it up. -/
def TabA (w : World) : Prop := ∀ m : Int, 1 ≤ m → m ≤ 12 → w.cell? ⟨1, m.toNat, none⟩ = some (.int .i64 (aheadI m))

/-- A return of a struct in a new block and a plain value. -/
theorem bodyPost_cell_tmp {P : Program} {fn : Func} {R : Ending → World → Prop} {a : Act} {w : World} {p u : Tmp} {ty : TypeId} (h : fn.results = #[.cell p ty, .tmp u]) (hdf : a.defers = [])
    (g : Nat) (t : TypeId) (cs : Array Value) (fr : Nat × Nat) (d : TypeDesc) (hp : a.tmps.getD p undef = .pointer (some ⟨g, 0, none⟩)) (hg : w.heap[g]? = some (.cells cs t fr))
    (hu : P.underlying ty = some d) (hd : (match d with | .struct _ | .array _ _ => true | _ => false) = true) (hi : (P.info? ty).map (·.size) = some cs.size)
    (hR : R (.returned (.tuple #[.agg cs, a.tmps.getD u undef])) w) : bodyPost P fn R .ret a w := by
  refine bodyPost_ret_by ?_ hdf hR
  rw [results_cell_tmp h]
  have hp' : a.tmps[p]?.getD undef = .pointer (some ⟨g, 0, none⟩) := by simpa using hp
  simp [hp', asAddr, Result.andThen, run_loadVar_row w g t ty cs fr d hg hu hd hi]

/-- The world w' holds all that w holds. -/
def Up (w w' : World) : Prop := Below w.heap.size w w'
theorem Up.refl (w : World) : Up w w := Below.refl _ _
theorem Up.trans {a b c : World} (h : Up a b) (k : Up b c) : Up a c := Below.trans h (Below.mono k (Below.size h))
theorem Up.alloc {a w : World} (h : Up a w) (o : Obj) : Up a (w.alloc o) := Below.alloc h (Below.size h) o
theorem Up.setCell {a w : World} (h : Up a w) {p : Addr} (hp : a.heap.size ≤ p.block) (u : Value) : Up a (w.setCell p u) := Below.setCell h hp u
theorem Up.cell {w w' : World} (h : Up w w') {a : Addr} {v : Value} (hc : w.cell? a = some v) : w'.cell? a = some v := (Below.cell h (World.block_lt_of_cell? w a hc)).trans hc
theorem TabA.up {w w' : World} (h : TabA w) (u : Up w w') : TabA w' := fun m m1 m2 => u.cell (h m m1 m2)

set_option maxHeartbeats 1000000 in
theorem civil_at (y m k d : Int) (h : Ok y m k) (hd : dA y m + k = d) (w : World) (hA : TabA w) :
    Calls Tryz.prog 103 #[.int .i64 d] w fun e w' => e = .returned (.tuple #[.agg #[.int .i64 y, .int .i64 m, .int .i64 k], .bool true]) ∧ ∃ o, w' = w.alloc o := by
  have hr := day_range h
  rw [hd] at hr
  obtain ⟨d1, d2⟩ := hr
  obtain ⟨y1, y2, m1, m2, k1, k2⟩ := h
  have ey : yearOf d = y := by
    obtain ⟨a1, a2, a3, a4⟩ := yearOf_ok d d1 d2
    have l := dA_low y m m1 m2
    have u := dA_high y m m1 m2
    rcases Int.lt_trichotomy (yearOf d) y with g | g | g
    · have := yA_mono (a := yearOf d + 1) (b := y) (by omega); omega
    · exact g
    · have := yA_mono (a := y + 1) (b := yearOf d) (by omega); omega
  have YO : Hid (∀ w, Calls Tryz.prog 121 #[.int .i64 d] w fun e w' => e = .returned (.int .i64 y) ∧ w' = w) := fun w => yearOf_at d y d1 d2 ey w
  have DA : Hid (∀ (i n : Int) (w : World), TabA w → 1 ≤ i → i ≤ 12 → dA y i = n → Calls Tryz.prog 122 #[.int .i64 y, .int .i64 i] w fun e w' => e = .returned (.int .i64 n) ∧ w' = w) := fun i n w hA i1 i2 hn => daysAhead_at y i n y1 y2 i1 i2 w (hA i i1 i2) hn
  have LT : Hid (∀ i : Int, 1 ≤ i → i < m → dA y (i + 1) < d) := fun i i1 i2 => by
    have e1 := dA_month y i i1 (by omega)
    have := dA_lt y i m i1 i2 m2
    omega
  have GE : Hid (m < 12 → d ≤ dA y (m + 1)) := fun i2 => by
    have e1 := dA_month y m m1 i2
    omega
  have ED : Hid (dA y m + k = d) := hd
  have HA : Hid (TabA w) := hA
  clear hA hd ey k2
  go_enter Tryz.func103, Tryz.ntmps103
  go_wp2_with fail
  refine (isDay_at d true (decide_eq_true ⟨d1, d2⟩) _).mono ?_
  rintro e w1 ⟨rfl, hw⟩; rw [hw]; clear hw w1
  go_wp2_with fail
  refine (YO.out _).mono ?_
  rintro e w1 ⟨rfl, hw⟩; rw [hw]; clear hw w1
  go_wp2_with fail
  have UW : Hid (Up w (w.alloc (.cells #[.int .i64 0, .int .i64 0, .int .i64 0] 108))) := (Up.refl w).alloc _
  have HB : Hid (TabA (w.alloc (.cells #[.int .i64 0, .int .i64 0, .int .i64 0] 108))) := HA.out.up UW.out
  go_loopw [5] (fun ii w' => w' = w.alloc (.cells #[.int .i64 0, .int .i64 0, .int .i64 0] 108) ∧ ∃ i : Int, 1 ≤ i ∧ i ≤ m ∧ ii = .int .i64 i) (fun ii _ => (12 - intOf ii).toNat)
  case atStart => exact ⟨rfl, 1, by omega, m1, rfl⟩
  case round =>
    obtain ⟨rfl, i, i1, i2, rfl⟩ := hrel
    by_cases hi : i < m
    · have t1 : i < 12 := by omega
      have t2 := LT.out i i1 hi
      have D1 : Hid (Calls Tryz.prog 122 #[.int .i64 y, .int .i64 (i + 1)] (w.alloc (.cells #[.int .i64 0, .int .i64 0, .int .i64 0] 108)) fun e w' => e = .returned (.int .i64 (dA y (i + 1))) ∧ w' = (w.alloc (.cells #[.int .i64 0, .int .i64 0, .int .i64 0] 108))) := DA.out (i + 1) _ _ HB.out (by omega) (by omega) rfl
      generalize dA y (i + 1) = x at *
      go_wp2_with fail
      refine D1.out.mono ?_
      rintro e w1 ⟨rfl, hw⟩; rw [hw]; clear hw w1
      go_wp2_with fail
      go_roundw
      case rel => exact ⟨trivial, i + 1, by omega, by omega, rfl⟩
      case measure => simp [intOf]; omega
    · obtain rfl : i = m := by omega
      have D2 : Hid (Calls Tryz.prog 122 #[.int .i64 y, .int .i64 i] (w.alloc (.cells #[.int .i64 0, .int .i64 0, .int .i64 0] 108)) fun e w' => e = .returned (.int .i64 (dA y i)) ∧ w' = (w.alloc (.cells #[.int .i64 0, .int .i64 0, .int .i64 0] 108))) := DA.out i _ _ HB.out (by omega) (by omega) rfl
      have ek : dA y i = d - k := by have := ED.out; omega
      rw [ek] at D2
      have kb : k ≤ d := by have := dA_low y i m1 m2; have h1 : yA 1 = 0 := by decide
                            have := yA_mono (a := 1) (b := y) (by omega); omega
      by_cases t1 : i < 12
      · have t2 : ¬ dA y (i + 1) < d := by have := GE.out t1; omega
        have D1 : Hid (Calls Tryz.prog 122 #[.int .i64 y, .int .i64 (i + 1)] (w.alloc (.cells #[.int .i64 0, .int .i64 0, .int .i64 0] 108)) fun e w' => e = .returned (.int .i64 (dA y (i + 1))) ∧ w' = (w.alloc (.cells #[.int .i64 0, .int .i64 0, .int .i64 0] 108))) := DA.out (i + 1) _ _ HB.out (by omega) (by omega) rfl
        generalize dA y (i + 1) = x at *
        clear ek ED
        go_wp2_with fail
        refine D1.out.mono ?_
        rintro e w1 ⟨rfl, hw⟩; rw [hw]; clear hw w1
        go_wp2_with fail
        refine D2.out.mono ?_
        rintro e w1 ⟨rfl, hw⟩; rw [hw]; clear hw w1
        go_wp2_with fail
        refine bodyPost_cell_tmp rfl rfl w.heap.size _ _ _ _ rfl (heap_alloc_new _ _) Tryz.underlying108 rfl (by kernel_rfl) ⟨?_, _, rfl⟩
        have e1 : d - (d - k) = k := by omega
        rw [e1]; rfl
      · clear ek ED
        go_wp2_with fail
        refine D2.out.mono ?_
        rintro e w1 ⟨rfl, hw⟩; rw [hw]; clear hw w1
        go_wp2_with fail
        refine bodyPost_cell_tmp rfl rfl w.heap.size _ _ _ _ rfl (heap_alloc_new _ _) Tryz.underlying108 rfl (by kernel_rfl) ⟨?_, _, rfl⟩
        have e1 : d - (d - k) = k := by omega
        rw [e1]; rfl
theorem civil_no (d : Int) (h : ¬(1 ≤ d ∧ d ≤ 3652059)) (w : World) :
    Calls Tryz.prog 103 #[.int .i64 d] w fun e w' => e = .returned (.tuple #[.agg #[.int .i64 0, .int .i64 0, .int .i64 0], .bool false]) ∧ ∃ o, w' = w.alloc o := by
  go_enter Tryz.func103, Tryz.ntmps103
  go_wp2_with fail
  refine (isDay_at d false (decide_eq_false h) _).mono ?_
  rintro e w1 ⟨rfl, hw⟩; rw [hw]; clear hw w1
  go_wp2_with fail
  exact bodyPost_cell_tmp rfl rfl w.heap.size _ _ _ _ rfl (heap_alloc_new _ _) Tryz.underlying108 rfl (by kernel_rfl) ⟨rfl, _, rfl⟩

/-- Every day has its date. -/
theorem civil_exists (d : Int) (h1 : 1 ≤ d) (h2 : d ≤ 3652059) : ∃ y m k, Ok y m k ∧ dA y m + k = d := by
  obtain ⟨a1, a2, a3, a4⟩ := yearOf_ok d h1 h2
  generalize yearOf d = y at *
  have key : ∀ n : Nat, n ≤ 11 → (d ≤ dA y ((n : Int) + 1) + lenI y ((n : Int) + 1)) → ∃ m k, Ok y m k ∧ dA y m + k = d := by
    intro n
    induction n with
    | zero =>
      intro _ hd
      refine ⟨1, d - dA y 1, ⟨a1, a2, by omega, by omega, ?_, ?_⟩, by omega⟩
      · rw [dA_one]; omega
      · simp at hd; omega
    | succ n ih =>
      intro hn hd
      by_cases g : dA y (((n + 1 : Nat) : Int) + 1) < d
      · exact ⟨((n + 1 : Nat) : Int) + 1, d - dA y (((n + 1 : Nat) : Int) + 1), ⟨a1, a2, by omega, by omega, by omega, by omega⟩, by omega⟩
      · refine ih (by omega) ?_
        have := dA_month y ((n : Int) + 1) (by omega) (by omega)
        have e : (((n + 1 : Nat) : Int) + 1) = (n : Int) + 1 + 1 := by omega
        rw [e] at g
        omega
  obtain ⟨m, k, h⟩ := key 11 (by omega) (by have := dA_last y; simp; omega)
  exact ⟨y, m, k, h⟩
end Go.Proofs.YtgdmkcbbomfmdaaGreatDoor

namespace Go.Proofs.YtgdmkcbbomfmdaaGreatDoor
open Go.RowKit CalM

theorem own : ownKnob Tryz.prog.godebug = none := by kernel_rfl
theorem bounds {x : Int} (h : (Lit.int .i64 x).wf = true) : -9223372036854775808 ≤ x ∧ x ≤ 9223372036854775807 := by
  simp [Lit.wf, IntKind.min, IntKind.max, IntKind.signed, IntKind.bits] at h
  exact ⟨by omega, by omega⟩

/-- The table of the months' lengths lies where the program looks it up. -/
def lenT (m : Int) : Int := if m = 2 then 28 else if m = 4 ∨ m = 6 ∨ m = 9 ∨ m = 11 then 30 else 31
def TabL (w : World) : Prop := ∀ m : Int, 1 ≤ m → m ≤ 12 → w.cell? ⟨2, m.toNat, none⟩ = some (.int .i64 (lenT m))

theorem gA : Tryz.prog.globalNamed "arrears/calendar.ahead" = some 1 := by kernel_rfl
theorem gL : Tryz.prog.globalNamed "arrears/calendar.lengths" = some 2 := by kernel_rfl
theorem tyA : (Tryz.prog.globals[1]?).map (·.type) = some 155 := by kernel_rfl
theorem tyL : (Tryz.prog.globals[2]?).map (·.type) = some 155 := by kernel_rfl
theorem cellsI : Tryz.prog.cellsOf 3 = 1 := by kernel_rfl
theorem cellsT : Tryz.prog.cellsOf 155 = 13 := by kernel_rfl

theorem tabA_is {W : World} (h : Lib.TabIs Tryz.prog W "arrears/calendar.ahead" .i64 aheadT) : TabA W := by
  intro m m1 m2
  rw [h.cell gA m.toNat (by simp [aheadT]; omega)]
  rcases month12 m1 m2 with e | e | e | e | e | e | e | e | e | e | e | e <;> subst e <;> rfl
theorem tabL_is {W : World} (h : Lib.TabIs Tryz.prog W "arrears/calendar.lengths" .i64 lengthT) : TabL W := by
  intro m m1 m2
  rw [h.cell gL m.toNat (by simp [lengthT]; omega)]
  rcases month12 m1 m2 with e | e | e | e | e | e | e | e | e | e | e | e <;> subst e <;> rfl

theorem tabA_of {W : World} (h : laidMetH Tryz.prog [("arrears/calendar.ahead", Rows.laid_arrears_calendar_ahead)] W) : TabA W := by
  rw [Go.MakeChecks.laidMetH_plain _ _ _ (by kernel_rfl)] at h
  exact tabA_is (Lib.tabIs_of_head (zs := aheadT) gA tyA Tryz.underlying155 Tryz.underlying3 cellsI cellsT h)
theorem tabL_of {W : World} (h : laidMetH Tryz.prog [("arrears/calendar.lengths", Rows.laid_arrears_calendar_lengths), ("arrears/calendar.ahead", Rows.laid_arrears_calendar_ahead)] W) : TabL W := by
  rw [Go.MakeChecks.laidMetH_plain _ _ _ (by kernel_rfl)] at h
  exact tabL_is (Lib.tabIs_of_head (zs := lengthT) gL tyL Tryz.underlying155 Tryz.underlying3 cellsI cellsT h)
theorem tabA_of2 {W : World} (h : laidMetH Tryz.prog [("arrears/calendar.lengths", Rows.laid_arrears_calendar_lengths), ("arrears/calendar.ahead", Rows.laid_arrears_calendar_ahead)] W) : TabA W := by
  rw [Go.MakeChecks.laidMetH_plain _ _ _ (by kernel_rfl)] at h
  exact tabA_is (Lib.tabIs_of_head (zs := aheadT) gA tyA Tryz.underlying155 Tryz.underlying3 cellsI cellsT h.tail)
end Go.Proofs.YtgdmkcbbomfmdaaGreatDoor

namespace Go.Proofs.YtgdmkcbbomfmdaaGreatDoor
open Go.RowKit CalM

theorem lp_of {y : Int} {b : Bool} (hb : leapB y = b) : lp y = if b then 1 else 0 := by
  have := lp_leap y
  have := lp_01 y
  cases b <;> simp_all
theorem lenI_of (y m : Int) (m2 : ¬ m = 2) : lenI y m = lenT m := by unfold lenI lenT; simp [m2]

theorem monthLen_at (y m n : Int) (h1 : 1 ≤ y) (h2 : y ≤ 9999) (m1 : 1 ≤ m) (m2 : m ≤ 12) (hn : lenI y m = n) (w : World) (hL : TabL w) :
    Calls Tryz.prog 130 #[.int .i64 y, .int .i64 m] w fun e w' => e = .returned (.int .i64 n) ∧ w' = w := by
  obtain ⟨b, hb⟩ : ∃ b, leapB y = b := ⟨_, rfl⟩
  have LP : Hid (∀ w, Calls Tryz.prog 136 #[.int .i64 y] w fun e w' => e = .returned (.bool b) ∧ w' = w) := fun w => leap_at y h1 h2 b hb w
  have IY : Hid (∀ w, Calls Tryz.prog 139 #[.int .i64 y] w fun e w' => e = .returned (.bool true) ∧ w' = w) := fun w => isYear_at y true (decide_eq_true ⟨h1, h2⟩) w
  have c2 : w.cell? ⟨2, 2, none⟩ = some (.int .i64 28) := hL 2 (by omega) (by omega)
  have cm := hL m m1 m2
  clear hL
  by_cases e2 : m = 2
  · subst e2
    have hl : n = 28 + lp y := by rw [← hn]; simp [lenI]
    rw [lp_of hb] at hl
    clear hb hn cm
    cases b
    all_goals
      simp at hl
      subst hl
      go_enter Tryz.func130, Tryz.ntmps130
      go_wp2_with fail
      refine (IY.out _).mono ?_
      rintro e w1 ⟨rfl, hw⟩; rw [hw]; clear hw w1
      go_wp2_with fail
      refine (LP.out _).mono ?_
      rintro e w1 ⟨rfl, hw⟩; rw [hw]; clear hw w1
      go_wp2_with fail
      go_ret
      exact ⟨rfl, rfl⟩
  · have hl : n = lenT m := by rw [← hn]; exact lenI_of y m e2
    subst hl
    clear hb hn
    generalize lenT m = L at *
    go_enter Tryz.func130, Tryz.ntmps130
    go_wp2_with fail
    refine (IY.out _).mono ?_
    rintro e w1 ⟨rfl, hw⟩; rw [hw]; clear hw w1
    go_wp2_with fail
    go_ret
    exact ⟨rfl, rfl⟩

theorem monthLen_no (y m : Int) (h : ¬(1 ≤ y ∧ y ≤ 9999 ∧ 1 ≤ m ∧ m ≤ 12)) (w : World) :
    Calls Tryz.prog 130 #[.int .i64 y, .int .i64 m] w fun e w' => e = .returned (.int .i64 0) ∧ w' = w := by
  by_cases hy : 1 ≤ y ∧ y ≤ 9999
  · have IY : Hid (∀ w, Calls Tryz.prog 139 #[.int .i64 y] w fun e w' => e = .returned (.bool true) ∧ w' = w) := fun w => isYear_at y true (decide_eq_true hy) w
    have hm : (decide (m < 1) || decide (12 < m)) = true := by simp; omega
    clear h hy
    go_enter Tryz.func130, Tryz.ntmps130
    go_wp2_with fail
    refine (IY.out _).mono ?_
    rintro e w1 ⟨rfl, hw⟩; rw [hw]; clear hw w1
    go_wp2_with fail
    all_goals
      go_ret
      exact ⟨rfl, rfl⟩
  · have IY : Hid (∀ w, Calls Tryz.prog 139 #[.int .i64 y] w fun e w' => e = .returned (.bool false) ∧ w' = w) := fun w => isYear_at y false (decide_eq_false hy) w
    clear h hy
    go_enter Tryz.func130, Tryz.ntmps130
    go_wp2_with fail
    refine (IY.out _).mono ?_
    rintro e w1 ⟨rfl, hw⟩; rw [hw]; clear hw w1
    go_wp2_with fail
    go_ret
    exact ⟨rfl, rfl⟩

theorem TabA.al {w : World} (h : TabA w) (o : Obj) : TabA (w.alloc o) := h.up ((Up.refl w).alloc o)
theorem TabL.up {w w' : World} (h : TabL w) (u : Up w w') : TabL w' := fun m m1 m2 => u.cell (h m m1 m2)
theorem TabL.al {w : World} (h : TabL w) (o : Obj) : TabL (w.alloc o) := h.up ((Up.refl w).alloc o)
theorem TabA.dr {w : World} (h : TabA w) (n : Nat) : TabA (w.drewN n) := h
theorem TabL.dr {w : World} (h : TabL w) (n : Nat) : TabL (w.drewN n) := h
theorem up_drewN {a w : World} (h : Up a w) (n : Nat) : Up a (w.drewN n) := below_drewN h n

theorem cell_new (w : World) (cs : Array Value) (t : TypeId) (i b : Nat) (v : Value) (h : cs[i]? = some v) (hb : w.heap.size = b) : (w.alloc (.cells cs t)).cell? ⟨b, i, none⟩ = some v := by
  subst hb
  rw [cell_of_row (w.alloc (.cells cs t)) w.heap.size i cs t (0, 0) (heap_alloc_new w _)]; exact h
theorem size_al (w : World) (o : Obj) (n : Nat) (h : w.heap.size = n) : (w.alloc o).heap.size = n + 1 := by
  show (w.heap.push o).size = _
  rw [Array.size_push, h]

set_option maxHeartbeats 1000000 in
theorem number_at (y m k n : Int) (h : Ok y m k) (hn : dA y m + k = n) (w : World) (hA : TabA w) (hL : TabL w) :
    Calls Tryz.prog 129 #[.agg #[.int .i64 y, .int .i64 m, .int .i64 k]] w fun e w' => e = .returned (.tuple #[.int .i64 n, .bool true]) ∧ ∃ o n, w' = (w.alloc o).drewN n := by
  have hr := day_range h
  obtain ⟨y1, y2, m1, m2, k1, k2⟩ := h
  have L31 := len_high y m
  have ML : Hid (∀ j, Calls Tryz.prog 130 #[.int .i64 y, .int .i64 m] ((w.alloc (.cells #[.int .i64 y, .int .i64 m, .int .i64 k] 108)).drewN j) fun e w' => e = .returned (.int .i64 (lenI y m)) ∧ w' = (w.alloc (.cells #[.int .i64 y, .int .i64 m, .int .i64 k] 108)).drewN j) := fun j => monthLen_at y m _ y1 y2 m1 m2 rfl _ ((hL.al _).dr j)
  have DA : Hid (∀ j, Calls Tryz.prog 122 #[.int .i64 y, .int .i64 m] ((w.alloc (.cells #[.int .i64 y, .int .i64 m, .int .i64 k] 108)).drewN j) fun e w' => e = .returned (.int .i64 (dA y m)) ∧ w' = (w.alloc (.cells #[.int .i64 y, .int .i64 m, .int .i64 k] 108)).drewN j) := fun j => daysAhead_at y m _ y1 y2 m1 m2 _ (((hA.al _).dr j) m m1 m2) rfl
  clear hA hL
  generalize lenI y m = L at *
  generalize dA y m = D at *
  have t1 : decide (k < 1) = false := decide_eq_false (by omega)
  have t2 : decide (L < k) = false := decide_eq_false (by omega)
  go_enter Tryz.func129, Tryz.ntmps129
  go_wp2_with fail
  go_quiet ((go_at_call 130; exact Calls.quiet_of_same (ML.out _)))
  go_wp2_with fail
  have c0 : ((w.alloc (.cells #[.int .i64 y, .int .i64 m, .int .i64 k] 108)).drewN nq).cell? ⟨w.heap.size, 0, none⟩ = some (.int .i64 y) := cell_new _ _ _ 0 _ _ rfl rfl
  have c1 : ((w.alloc (.cells #[.int .i64 y, .int .i64 m, .int .i64 k] 108)).drewN nq).cell? ⟨w.heap.size, 1, none⟩ = some (.int .i64 m) := cell_new _ _ _ 1 _ _ rfl rfl
  have c2 : ((w.alloc (.cells #[.int .i64 y, .int .i64 m, .int .i64 k] 108)).drewN nq).cell? ⟨w.heap.size, 2, none⟩ = some (.int .i64 k) := cell_new _ _ _ 2 _ _ rfl rfl
  have DB : Hid (∀ j, Calls Tryz.prog 122 #[.int .i64 y, .int .i64 m] (((w.alloc (.cells #[.int .i64 y, .int .i64 m, .int .i64 k] 108)).drewN nq).drewN j) fun e w' => e = .returned (.int .i64 D) ∧ w' = ((w.alloc (.cells #[.int .i64 y, .int .i64 m, .int .i64 k] 108)).drewN nq).drewN j) := fun j => by rw [World.drewN_drewN]; exact DA.out _
  have FIN : Hid (∀ j, ∃ o n, ((w.alloc (.cells #[.int .i64 y, .int .i64 m, .int .i64 k] 108)).drewN nq).drewN j = (w.alloc o).drewN n) := fun j => ⟨_, nq + j, World.drewN_drewN _ _ _⟩
  clear DA ML
  generalize (w.alloc (.cells #[.int .i64 y, .int .i64 m, .int .i64 k] 108)).drewN nq = W at *
  go_quiet ((go_at_call 122; exact Calls.quiet_of_same (DB.out _)))
  go_wp2_with fail
  go_ret2
  exact ⟨ret_ib (by omega) rfl, FIN.out _⟩

set_option maxHeartbeats 1000000 in
theorem number_no (y m k : Int) (h : ¬ Ok y m k) (w : World) (hL : TabL w) :
    Calls Tryz.prog 129 #[.agg #[.int .i64 y, .int .i64 m, .int .i64 k]] w fun e w' => e = .returned (.tuple #[.int .i64 0, .bool false]) ∧ ∃ o n, w' = (w.alloc o).drewN n := by
  by_cases k0 : k < 1
  · have t1 : decide (k < 1) = true := decide_eq_true k0
    clear h hL
    go_enter Tryz.func129, Tryz.ntmps129
    go_wp2_with fail
    go_quiet (fail)
    go_wp2_with fail
    go_ret2
    exact ⟨rfl, _, _, rfl⟩
  · have t1 : decide (k < 1) = false := decide_eq_false k0
    obtain ⟨L, hk, ML⟩ : ∃ L, L < k ∧ Hid (∀ j, Calls Tryz.prog 130 #[.int .i64 y, .int .i64 m] ((w.alloc (.cells #[.int .i64 y, .int .i64 m, .int .i64 k] 108)).drewN j) fun e w' => e = .returned (.int .i64 L) ∧ w' = (w.alloc (.cells #[.int .i64 y, .int .i64 m, .int .i64 k] 108)).drewN j) := by
      by_cases g : 1 ≤ y ∧ y ≤ 9999 ∧ 1 ≤ m ∧ m ≤ 12
      · obtain ⟨y1, y2, m1, m2⟩ := g
        refine ⟨lenI y m, ?_, fun j => monthLen_at y m _ y1 y2 m1 m2 rfl _ ((hL.al _).dr j)⟩
        rcases Int.lt_or_le (lenI y m) k with g | g
        · exact g
        · exact absurd ⟨y1, y2, m1, m2, by omega, g⟩ h
      · exact ⟨0, by omega, fun j => monthLen_no y m g _⟩
    have t2 : decide (L < k) = true := decide_eq_true hk
    clear h hL
    go_enter Tryz.func129, Tryz.ntmps129
    go_wp2_with fail
    go_quiet ((go_at_call 130; exact Calls.quiet_of_same (ML.out _)))
    go_wp2_with fail
    go_ret2
    exact ⟨rfl, _, _, rfl⟩
end Go.Proofs.YtgdmkcbbomfmdaaGreatDoor
