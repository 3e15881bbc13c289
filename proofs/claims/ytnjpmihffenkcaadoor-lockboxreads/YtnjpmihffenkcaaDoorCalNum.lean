/-
  Ours: contracts of calendar.MonthLen, calendar.Number.
-/
import Derived.Test.YtnjpmihffenkcaaDoorCalTab
import Derived.Laws.Rows
import Derived.Deep.QuietTactic
import Derived.BigQuiet
import Derived.WalkSmall
namespace Go.Proofs.YtnjpmihffenkcaaDoor
open Go.RowKit CalM

theorem lp_of {y : Int} {b : Bool} (hb : leapB y = b) : lp y = if b then 1 else 0 := by
  have := lp_leap y
  have := lp_01 y
  cases b <;> simp_all
theorem lenI_of (y m : Int) (m2 : ¬ m = 2) : lenI y m = lenT m := by unfold lenI lenT; simp [m2]

theorem monthLen_at (y m n : Int) (h1 : 1 ≤ y) (h2 : y ≤ 9999) (m1 : 1 ≤ m) (m2 : m ≤ 12) (hn : lenI y m = n) (w : World) (hL : TabL w) :
    Calls Tryd.prog 76 #[.int .i64 y, .int .i64 m] w fun e w' => e = .returned (.int .i64 n) ∧ w' = w := by
  obtain ⟨b, hb⟩ : ∃ b, leapB y = b := ⟨_, rfl⟩
  have LP : Hid (∀ w, Calls Tryd.prog 69 #[.int .i64 y] w fun e w' => e = .returned (.bool b) ∧ w' = w) := fun w => leap_at y h1 h2 b hb w
  have IY : Hid (∀ w, Calls Tryd.prog 78 #[.int .i64 y] w fun e w' => e = .returned (.bool true) ∧ w' = w) := fun w => isYear_at y true (decide_eq_true ⟨h1, h2⟩) w
  have c2 : w.cell? ⟨3, 2, none⟩ = some (.int .i64 28) := hL 2 (by omega) (by omega)
  have cm := hL m m1 m2
  clear hL
  by_cases e2 : m = 2
  · subst e2
    have hl : n = 28 + lp y := by rw [← hn]; simp [lenI]
    rw [lp_of hb] at hl
    clear hb hn cm
    cases b
    all_goals
      simp at hl
      subst hl
      go_enter Tryd.func76, Tryd.ntmps76
      go_wp2_with fail
      refine (IY.out _).mono ?_
      rintro e w1 ⟨rfl, hw⟩; rw [hw]; clear hw w1
      go_wp2_with fail
      refine (LP.out _).mono ?_
      rintro e w1 ⟨rfl, hw⟩; rw [hw]; clear hw w1
      go_wp2_with fail
      go_ret
      exact ⟨rfl, rfl⟩
  · have hl : n = lenT m := by rw [← hn]; exact lenI_of y m e2
    subst hl
    clear hb hn
    generalize lenT m = L at *
    go_enter Tryd.func76, Tryd.ntmps76
    go_wp2_with fail
    refine (IY.out _).mono ?_
    rintro e w1 ⟨rfl, hw⟩; rw [hw]; clear hw w1
    go_wp2_with fail
    go_ret
    exact ⟨rfl, rfl⟩

theorem monthLen_no (y m : Int) (h : ¬(1 ≤ y ∧ y ≤ 9999 ∧ 1 ≤ m ∧ m ≤ 12)) (w : World) :
    Calls Tryd.prog 76 #[.int .i64 y, .int .i64 m] w fun e w' => e = .returned (.int .i64 0) ∧ w' = w := by
  by_cases hy : 1 ≤ y ∧ y ≤ 9999
  · have IY : Hid (∀ w, Calls Tryd.prog 78 #[.int .i64 y] w fun e w' => e = .returned (.bool true) ∧ w' = w) := fun w => isYear_at y true (decide_eq_true hy) w
    have hm : (decide (m < 1) || decide (12 < m)) = true := by simp; omega
    clear h hy
    go_enter Tryd.func76, Tryd.ntmps76
    go_wp2_with fail
    refine (IY.out _).mono ?_
    rintro e w1 ⟨rfl, hw⟩; rw [hw]; clear hw w1
    go_wp2_with fail
    all_goals
      go_ret
      exact ⟨rfl, rfl⟩
  · have IY : Hid (∀ w, Calls Tryd.prog 78 #[.int .i64 y] w fun e w' => e = .returned (.bool false) ∧ w' = w) := fun w => isYear_at y false (decide_eq_false hy) w
    clear h hy
    go_enter Tryd.func76, Tryd.ntmps76
    go_wp2_with fail
    refine (IY.out _).mono ?_
    rintro e w1 ⟨rfl, hw⟩; rw [hw]; clear hw w1
    go_wp2_with fail
    go_ret
    exact ⟨rfl, rfl⟩

theorem TabA.al {w : World} (h : TabA w) (o : Obj) : TabA (w.alloc o) := h.up ((Up.refl w).alloc o)
theorem TabL.up {w w' : World} (h : TabL w) (u : Up w w') : TabL w' := fun m m1 m2 => u.cell (h m m1 m2)
theorem TabL.al {w : World} (h : TabL w) (o : Obj) : TabL (w.alloc o) := h.up ((Up.refl w).alloc o)
theorem TabA.dr {w : World} (h : TabA w) (n : Nat) : TabA (w.drewN n) := h
theorem TabL.dr {w : World} (h : TabL w) (n : Nat) : TabL (w.drewN n) := h
theorem up_drewN {a w : World} (h : Up a w) (n : Nat) : Up a (w.drewN n) := below_drewN h n

theorem cell_new (w : World) (cs : Array Value) (t : TypeId) (i b : Nat) (v : Value) (h : cs[i]? = some v) (hb : w.heap.size = b) : (w.alloc (.cells cs t)).cell? ⟨b, i, none⟩ = some v := by
  subst hb
  rw [cell_of_row (w.alloc (.cells cs t)) w.heap.size i cs t (0, 0) (heap_alloc_new w _)]; exact h
theorem size_al (w : World) (o : Obj) (n : Nat) (h : w.heap.size = n) : (w.alloc o).heap.size = n + 1 := by
  show (w.heap.push o).size = _
  rw [Array.size_push, h]

set_option maxHeartbeats 1000000 in
theorem number_at (y m k n : Int) (h : Ok y m k) (hn : dA y m + k = n) (w : World) (hA : TabA w) (hL : TabL w) :
    Calls Tryd.prog 61 #[.agg #[.int .i64 y, .int .i64 m, .int .i64 k]] w fun e w' => e = .returned (.tuple #[.int .i64 n, .bool true]) ∧ ∃ o n, w' = (w.alloc o).drewN n := by
  have hr := day_range h
  obtain ⟨y1, y2, m1, m2, k1, k2⟩ := h
  have L31 := len_high y m
  have ML : Hid (∀ j, Calls Tryd.prog 76 #[.int .i64 y, .int .i64 m] ((w.alloc (.cells #[.int .i64 y, .int .i64 m, .int .i64 k] 50)).drewN j) fun e w' => e = .returned (.int .i64 (lenI y m)) ∧ w' = (w.alloc (.cells #[.int .i64 y, .int .i64 m, .int .i64 k] 50)).drewN j) := fun j => monthLen_at y m _ y1 y2 m1 m2 rfl _ ((hL.al _).dr j)
  have DA : Hid (∀ j, Calls Tryd.prog 55 #[.int .i64 y, .int .i64 m] ((w.alloc (.cells #[.int .i64 y, .int .i64 m, .int .i64 k] 50)).drewN j) fun e w' => e = .returned (.int .i64 (dA y m)) ∧ w' = (w.alloc (.cells #[.int .i64 y, .int .i64 m, .int .i64 k] 50)).drewN j) := fun j => daysAhead_at y m _ y1 y2 m1 m2 _ (((hA.al _).dr j) m m1 m2) rfl
  clear hA hL
  generalize lenI y m = L at *
  generalize dA y m = D at *
  have t1 : decide (k < 1) = false := decide_eq_false (by omega)
  have t2 : decide (L < k) = false := decide_eq_false (by omega)
  go_enter Tryd.func61, Tryd.ntmps61
  go_wp2_with fail
  go_quiet ((go_at_call 76; exact Calls.quiet_of_same (ML.out _)))
  go_wp2_with fail
  have c0 : ((w.alloc (.cells #[.int .i64 y, .int .i64 m, .int .i64 k] 50)).drewN nq).cell? ⟨w.heap.size, 0, none⟩ = some (.int .i64 y) := cell_new _ _ _ 0 _ _ rfl rfl
  have c1 : ((w.alloc (.cells #[.int .i64 y, .int .i64 m, .int .i64 k] 50)).drewN nq).cell? ⟨w.heap.size, 1, none⟩ = some (.int .i64 m) := cell_new _ _ _ 1 _ _ rfl rfl
  have c2 : ((w.alloc (.cells #[.int .i64 y, .int .i64 m, .int .i64 k] 50)).drewN nq).cell? ⟨w.heap.size, 2, none⟩ = some (.int .i64 k) := cell_new _ _ _ 2 _ _ rfl rfl
  have DB : Hid (∀ j, Calls Tryd.prog 55 #[.int .i64 y, .int .i64 m] (((w.alloc (.cells #[.int .i64 y, .int .i64 m, .int .i64 k] 50)).drewN nq).drewN j) fun e w' => e = .returned (.int .i64 D) ∧ w' = ((w.alloc (.cells #[.int .i64 y, .int .i64 m, .int .i64 k] 50)).drewN nq).drewN j) := fun j => by rw [World.drewN_drewN]; exact DA.out _
  have FIN : Hid (∀ j, ∃ o n, ((w.alloc (.cells #[.int .i64 y, .int .i64 m, .int .i64 k] 50)).drewN nq).drewN j = (w.alloc o).drewN n) := fun j => ⟨_, nq + j, World.drewN_drewN _ _ _⟩
  clear DA ML
  generalize (w.alloc (.cells #[.int .i64 y, .int .i64 m, .int .i64 k] 50)).drewN nq = W at *
  go_quiet ((go_at_call 55; exact Calls.quiet_of_same (DB.out _)))
  go_wp2_with fail
  go_ret2
  exact ⟨ret_ib (by omega) rfl, FIN.out _⟩

set_option maxHeartbeats 1000000 in
theorem number_no (y m k : Int) (h : ¬ Ok y m k) (w : World) (hL : TabL w) :
    Calls Tryd.prog 61 #[.agg #[.int .i64 y, .int .i64 m, .int .i64 k]] w fun e w' => e = .returned (.tuple #[.int .i64 0, .bool false]) ∧ ∃ o n, w' = (w.alloc o).drewN n := by
  by_cases k0 : k < 1
  · have t1 : decide (k < 1) = true := decide_eq_true k0
    clear h hL
    go_enter Tryd.func61, Tryd.ntmps61
    go_wp2_with fail
    go_quiet (fail)
    go_wp2_with fail
    go_ret2
    exact ⟨rfl, _, _, rfl⟩
  · have t1 : decide (k < 1) = false := decide_eq_false k0
    obtain ⟨L, hk, ML⟩ : ∃ L, L < k ∧ Hid (∀ j, Calls Tryd.prog 76 #[.int .i64 y, .int .i64 m] ((w.alloc (.cells #[.int .i64 y, .int .i64 m, .int .i64 k] 50)).drewN j) fun e w' => e = .returned (.int .i64 L) ∧ w' = (w.alloc (.cells #[.int .i64 y, .int .i64 m, .int .i64 k] 50)).drewN j) := by
      by_cases g : 1 ≤ y ∧ y ≤ 9999 ∧ 1 ≤ m ∧ m ≤ 12
      · obtain ⟨y1, y2, m1, m2⟩ := g
        refine ⟨lenI y m, ?_, fun j => monthLen_at y m _ y1 y2 m1 m2 rfl _ ((hL.al _).dr j)⟩
        rcases Int.lt_or_le (lenI y m) k with g | g
        · exact g
        · exact absurd ⟨y1, y2, m1, m2, by omega, g⟩ h
      · exact ⟨0, by omega, fun j => monthLen_no y m g _⟩
    have t2 : decide (L < k) = true := decide_eq_true hk
    clear h hL
    go_enter Tryd.func61, Tryd.ntmps61
    go_wp2_with fail
    go_quiet ((go_at_call 76; exact Calls.quiet_of_same (ML.out _)))
    go_wp2_with fail
    go_ret2
    exact ⟨rfl, _, _, rfl⟩
end Go.Proofs.YtnjpmihffenkcaaDoor
