/-
  Ours: the walk of CalendarGregorian.
-/
import Derived.Test.YtnelmgjdbheogaaDoorCalCycle
import Derived.Laws.Rows
import Derived.Deep.QuietTactic
import Derived.BigQuiet
import Derived.WalkSmall
namespace Go.Proofs.YtnelmgjdbheogaaDoor
open Go.RowKit CalM

theorem leaps_at (y : Int) (h1 : 1 ≤ y) (b : Bool) (hb : leapB y = b) (w : World) :
    Calls Tryd.prog 25 #[.int .i64 y] w fun e w' => e = .returned (.bool b) ∧ w' = w := by
  by_cases a1 : y % 4 = 0
  · by_cases a2 : y % 100 = 0
    · go_enter Tryd.func25, Tryd.ntmps25
      go_wp2
      go_ret
      exact ⟨ret_bool (by rw [← hb, Bool.eq_iff_iff]; simp [leapB, a1, a2]), rfl⟩
    · go_enter Tryd.func25, Tryd.ntmps25
      go_wp2
      go_ret
      exact ⟨ret_bool (by rw [← hb, Bool.eq_iff_iff]; simp [leapB, a1, a2]), rfl⟩
  · go_enter Tryd.func25, Tryd.ntmps25
    go_wp2
    go_ret
    exact ⟨ret_bool (by rw [← hb, Bool.eq_iff_iff]; simp [leapB, a1]), rfl⟩

theorem length_at (y m n : Int) (h1 : 1 ≤ y) (m1 : 1 ≤ m) (m2 : m ≤ 12) (hn : lenI y m = n) (w : World) :
    Calls Tryd.prog 14 #[.int .i64 y, .int .i64 m] w fun e w' => e = .returned (.int .i64 n) ∧ w' = w := by
  obtain ⟨b, hb⟩ : ∃ b, leapB y = b := ⟨_, rfl⟩
  have LP : Hid (∀ w, Calls Tryd.prog 25 #[.int .i64 y] w fun e w' => e = .returned (.bool b) ∧ w' = w) := fun w => leaps_at y h1 b hb w
  unfold lenI at hn
  rw [lp_of hb] at hn
  clear hb
  rcases month12 m1 m2 with e | e | e | e | e | e | e | e | e | e | e | e <;> subst e
  all_goals simp at hn
  case inr.inl =>
    cases b
    all_goals
      simp at hn
      go_enter Tryd.func14, Tryd.ntmps14
      go_wp2_with fail
      refine (LP.out _).mono ?_
      rintro e w1 ⟨rfl, hw⟩; rw [hw]; clear hw w1
      go_wp2_with fail
      go_ret
      exact ⟨ret_int (by omega), rfl⟩
  all_goals
    go_enter Tryd.func14, Tryd.ntmps14
    go_wp2_with fail
    go_ret
    exact ⟨ret_int (by omega), rfl⟩

/-- A return of a struct in a new block. -/
theorem bodyPost_cell {P : Program} {fn : Func} {R : Ending → World → Prop} {a : Act} {w : World} {p : Tmp} {ty : TypeId} (h : fn.results = #[.cell p ty]) (hdf : a.defers = [])
    (g : Nat) (t : TypeId) (cs : Array Value) (fr : Nat × Nat) (d : TypeDesc) (hp : a.tmps.getD p undef = .pointer (some ⟨g, 0, none⟩)) (hg : w.heap[g]? = some (.cells cs t fr))
    (hu : P.underlying ty = some d) (hd : (match d with | .struct _ | .array _ _ => true | _ => false) = true) (hi : (P.info? ty).map (·.size) = some cs.size)
    (hR : R (.returned (.agg cs)) w) : bodyPost P fn R .ret a w :=
  bodyPost_ret_by (results_cell_row h _ w g t cs fr d hp hg hu hd hi) hdf hR

/-- The date behind a date. -/
def NextOf (y m k y' m' k' : Int) : Prop := (k < lenI y m ∧ y' = y ∧ m' = m ∧ k' = k + 1) ∨ (k = lenI y m ∧ m < 12 ∧ y' = y ∧ m' = m + 1 ∧ k' = 1) ∨ (k = lenI y m ∧ m = 12 ∧ y' = y + 1 ∧ m' = 1 ∧ k' = 1)

theorem drewN_in (w : World) (o : Obj) (n : Nat) : (w.alloc o).drewN n = (w.drewN n).alloc o := rfl

set_option maxHeartbeats 1000000 in
theorem tomorrow_at (y m k y' m' k' : Int) (h : Ok y m k) (hn : NextOf y m k y' m' k') (w : World) :
    Calls Tryd.prog 12 #[.agg #[.int .i64 y, .int .i64 m, .int .i64 k]] w fun e w' => e = .returned (.agg #[.int .i64 y', .int .i64 m', .int .i64 k']) ∧ ∃ o p n, w' = ((w.drewN n).alloc o).alloc p := by
  obtain ⟨y1, y2, m1, m2, k1, k2⟩ := h
  have l31 := len_high y m
  have LN : Hid (∀ w, Calls Tryd.prog 14 #[.int .i64 y, .int .i64 m] w fun e w' => e = .returned (.int .i64 (lenI y m)) ∧ w' = w) := fun w => length_at y m _ y1 m1 m2 rfl w
  unfold NextOf at hn
  generalize lenI y m = L at *
  rcases hn with ⟨a1, rfl, rfl, rfl⟩ | ⟨a1, a2, rfl, rfl, rfl⟩ | ⟨a1, rfl, rfl, rfl, rfl⟩
  · go_enter Tryd.func12, Tryd.ntmps12
    go_wp2_with fail
    go_quiet ((go_at_call 14; exact Calls.quiet_of_same (LN.out _)))
    simp only [drewN_in]
    obtain ⟨w0, hw0⟩ : ∃ w0, w.drewN nq = w0 := ⟨_, rfl⟩
    have hs : w.heap.size = w0.heap.size := by rw [← hw0]; rfl
    rw [hw0, hs]
    go_wp2_with fail
    refine bodyPost_cell (p := 2) rfl rfl (w0.heap.size + 1) _ _ _ _ rfl (heap_alloc2_new w0 _ _) Tryd.underlying23 rfl (by kernel_rfl) ⟨rfl, _, _, _, by rw [← hw0]⟩
  · have a3 : ¬ k < L := by omega
    go_enter Tryd.func12, Tryd.ntmps12
    go_wp2_with fail
    go_quiet ((go_at_call 14; exact Calls.quiet_of_same (LN.out _)))
    simp only [drewN_in]
    obtain ⟨w0, hw0⟩ : ∃ w0, w.drewN nq = w0 := ⟨_, rfl⟩
    have hs : w.heap.size = w0.heap.size := by rw [← hw0]; rfl
    rw [hw0, hs]
    go_wp2_with fail
    refine bodyPost_cell (p := 2) rfl rfl (w0.heap.size + 1) _ _ _ _ rfl (heap_alloc2_new w0 _ _) Tryd.underlying23 rfl (by kernel_rfl) ⟨rfl, _, _, _, by rw [← hw0]⟩
  · have a3 : ¬ k < L := by omega
    go_enter Tryd.func12, Tryd.ntmps12
    go_wp2_with fail
    go_quiet ((go_at_call 14; exact Calls.quiet_of_same (LN.out _)))
    simp only [drewN_in]
    obtain ⟨w0, hw0⟩ : ∃ w0, w.drewN nq = w0 := ⟨_, rfl⟩
    have hs : w.heap.size = w0.heap.size := by rw [← hw0]; rfl
    rw [hw0, hs]
    go_wp2_with fail
    refine bodyPost_cell (p := 2) rfl rfl (w0.heap.size + 1) _ _ _ _ rfl (heap_alloc2_new w0 _ _) Tryd.underlying23 rfl (by kernel_rfl) ⟨rfl, _, _, _, by rw [← hw0]⟩
end Go.Proofs.YtnelmgjdbheogaaDoor
