/-
  Ours: contracts of the document's own Civil, Weekday.
-/
import Derived.Test.YtgdmkcbbomfmdaaGreatDoorCalNum
namespace Go.Proofs.YtgdmkcbbomfmdaaGreatDoor
open Go.RowKit CalM

theorem divides_at (y : Int) (h1 : 1 ≤ y) (b : Bool) (hb : leapB y = b) (w : World) :
    Calls Tryz.prog 117 #[.int .i64 y] w fun e w' => e = .returned (.bool b) ∧ w' = w := by
  by_cases a1 : y % 4 = 0
  · by_cases a2 : y % 100 = 0
    · go_enter Tryz.func117, Tryz.ntmps117
      go_wp2
      go_ret
      exact ⟨ret_bool (by rw [← hb, Bool.eq_iff_iff]; simp [leapB, a1, a2]), rfl⟩
    · go_enter Tryz.func117, Tryz.ntmps117
      go_wp2
      go_ret
      exact ⟨ret_bool (by rw [← hb, Bool.eq_iff_iff]; simp [leapB, a1, a2]), rfl⟩
  · go_enter Tryz.func117, Tryz.ntmps117
    go_wp2
    go_ret
    exact ⟨ret_bool (by rw [← hb, Bool.eq_iff_iff]; simp [leapB, a1]), rfl⟩

theorem yearLen_at (y n : Int) (h1 : 1 ≤ y) (hn : 365 + lp y = n) (w : World) :
    Calls Tryz.prog 93 #[.int .i64 y] w fun e w' => e = .returned (.int .i64 n) ∧ w' = w := by
  obtain ⟨b, hb⟩ : ∃ b, leapB y = b := ⟨_, rfl⟩
  have LP : Hid (∀ w, Calls Tryz.prog 117 #[.int .i64 y] w fun e w' => e = .returned (.bool b) ∧ w' = w) := fun w => divides_at y h1 b hb w
  rw [lp_of hb] at hn
  clear hb
  cases b
  all_goals
    simp at hn
    subst hn
    go_enter Tryz.func93, Tryz.ntmps93
    go_wp2_with fail
    refine (LP.out _).mono ?_
    rintro e w1 ⟨rfl, hw⟩; rw [hw]; clear hw w1
    go_wp2_with fail
    go_ret
    exact ⟨rfl, rfl⟩

theorem lenOf_at (y m n : Int) (h1 : 1 ≤ y) (m1 : 1 ≤ m) (m2 : m ≤ 12) (hn : lenI y m = n) (w : World) :
    Calls Tryz.prog 94 #[.int .i64 y, .int .i64 m] w fun e w' => e = .returned (.int .i64 n) ∧ w' = w := by
  obtain ⟨b, hb⟩ : ∃ b, leapB y = b := ⟨_, rfl⟩
  have LP : Hid (∀ w, Calls Tryz.prog 117 #[.int .i64 y] w fun e w' => e = .returned (.bool b) ∧ w' = w) := fun w => divides_at y h1 b hb w
  unfold lenI at hn
  rw [lp_of hb] at hn
  clear hb
  rcases month12 m1 m2 with e | e | e | e | e | e | e | e | e | e | e | e <;> subst e
  all_goals simp at hn
  case inr.inl =>
    cases b
    all_goals
      simp at hn
      go_enter Tryz.func94, Tryz.ntmps94
      go_wp2_with fail
      refine (LP.out _).mono ?_
      rintro e w1 ⟨rfl, hw⟩; rw [hw]; clear hw w1
      go_wp2_with fail
      go_ret
      exact ⟨ret_int (by omega), rfl⟩
  all_goals
    go_enter Tryz.func94, Tryz.ntmps94
    go_wp2_with fail
    go_ret
    exact ⟨ret_int (by omega), rfl⟩

theorem refMonthLen_at (y m n : Int) (h1 : 1 ≤ y) (h2 : y ≤ 9999) (m1 : 1 ≤ m) (m2 : m ≤ 12) (hn : lenI y m = n) (w : World) :
    Calls Tryz.prog 118 #[.int .i64 y, .int .i64 m] w fun e w' => e = .returned (.int .i64 n) ∧ w' = w := by
  have LO : Hid (∀ w, Calls Tryz.prog 94 #[.int .i64 y, .int .i64 m] w fun e w' => e = .returned (.int .i64 n) ∧ w' = w) := fun w => lenOf_at y m n h1 m1 m2 hn w
  clear hn
  go_enter Tryz.func118, Tryz.ntmps118
  go_wp2_with fail
  refine (LO.out _).mono ?_
  rintro e w1 ⟨rfl, hw⟩; rw [hw]; clear hw w1
  go_wp2_with fail
  go_ret
  exact ⟨rfl, rfl⟩

theorem refMonthLen_no (y m : Int) (h : ¬(1 ≤ y ∧ y ≤ 9999 ∧ 1 ≤ m ∧ m ≤ 12)) (w : World) :
    Calls Tryz.prog 118 #[.int .i64 y, .int .i64 m] w fun e w' => e = .returned (.int .i64 0) ∧ w' = w := by
  have HO : Hid (¬(1 ≤ y ∧ y ≤ 9999 ∧ 1 ≤ m ∧ m ≤ 12)) := h
  clear h
  go_enter Tryz.func118, Tryz.ntmps118
  go_wp2_with fail
  all_goals first
    | (go_ret
       exact ⟨rfl, rfl⟩)
    | (exfalso
       exact HO.out (by omega))

theorem yA_400 (q : Int) : yA (400 * q + 1) = q * 146097 := by unfold yA; omega
theorem yA_bound {y : Int} (h1 : 1 ≤ y) (h2 : y ≤ 9999) : 0 ≤ yA y ∧ yA y ≤ 3651694 := by
  have a := yA_mono (a := 1) (b := y) h1
  have b := yA_mono (a := y) (b := 9999) h2
  have e1 : yA 1 = 0 := by decide
  have e2 : yA 9999 = 3651694 := by decide
  omega
theorem dA_bound {y m : Int} (h1 : 1 ≤ y) (h2 : y ≤ 9999) (m1 : 1 ≤ m) (m2 : m ≤ 12) : 0 ≤ dA y m ∧ dA y m ≤ 3652059 := by
  have a := dA_low y m m1 m2
  have b := dA_high y m m1 m2
  have c := yA_bound h1 h2
  have d := len_low y m
  have e := yA_succ y
  have f := lp_01 y
  omega

set_option maxHeartbeats 2000000 in
theorem refNumber_at (y m k n : Int) (h : Ok y m k) (hn : dA y m + k = n) (w : World) :
    Calls Tryz.prog 95 #[.agg #[.int .i64 y, .int .i64 m, .int .i64 k]] w fun e w' => e = .returned (.tuple #[.int .i64 n, .bool true]) ∧ ∃ o n, w' = (w.alloc o).drewN n := by
  have hr := day_range h
  rw [hn] at hr
  obtain ⟨y1, y2, m1, m2, k1, k2⟩ := h
  have L31 := len_high y m
  have ML : Hid (∀ w, Calls Tryz.prog 118 #[.int .i64 y, .int .i64 m] w fun e w' => e = .returned (.int .i64 (lenI y m)) ∧ w' = w) := fun w => refMonthLen_at y m _ y1 y2 m1 m2 rfl w
  have YL : Hid (∀ (j n : Int) (w : World), 1 ≤ j → yA (j + 1) - yA j = n → Calls Tryz.prog 93 #[.int .i64 j] w fun e w' => e = .returned (.int .i64 n) ∧ w' = w) := fun j n w j1 hn => yearLen_at j n j1 (by have := yA_succ j; omega) w
  have LO : Hid (∀ (j n : Int) (w : World), 1 ≤ j → j < 12 → dA y (j + 1) - dA y j = n → Calls Tryz.prog 94 #[.int .i64 y, .int .i64 j] w fun e w' => e = .returned (.int .i64 n) ∧ w' = w) := fun j n w j1 j2 hn => lenOf_at y j n y1 j1 (by omega) (by have := dA_month y j j1 j2; omega) w
  have HN : Hid (dA y m + k = n) := hn
  clear hn
  generalize lenI y m = L at *
  have t1 : decide (k < 1) = false := decide_eq_false (by omega)
  have t2 : decide (L < k) = false := decide_eq_false (by omega)
  go_enter Tryz.func95, Tryz.ntmps95
  go_wp2_with fail
  go_quiet ((go_at_call 118; exact Calls.quiet_of_same (ML.out _)))
  go_wp2_with fail
  have c0 : ((w.alloc (.cells #[.int .i64 y, .int .i64 m, .int .i64 k] 108)).drewN nq).cell? ⟨w.heap.size, 0, none⟩ = some (.int .i64 y) := cell_new _ _ _ 0 _ _ rfl rfl
  have c1 : ((w.alloc (.cells #[.int .i64 y, .int .i64 m, .int .i64 k] 108)).drewN nq).cell? ⟨w.heap.size, 1, none⟩ = some (.int .i64 m) := cell_new _ _ _ 1 _ _ rfl rfl
  have c2 : ((w.alloc (.cells #[.int .i64 y, .int .i64 m, .int .i64 k] 108)).drewN nq).cell? ⟨w.heap.size, 2, none⟩ = some (.int .i64 k) := cell_new _ _ _ 2 _ _ rfl rfl
  have FIN : Hid (∀ j, ∃ o n, ((w.alloc (.cells #[.int .i64 y, .int .i64 m, .int .i64 k] 108)).drewN nq).drewN j = (w.alloc o).drewN n) := fun j => ⟨_, nq + j, World.drewN_drewN _ _ _⟩
  generalize (w.alloc (.cells #[.int .i64 y, .int .i64 m, .int .i64 k] 108)).drewN nq = W at *
  clear ML
  go_loopw [5, 6] (fun nn yy w' => w' = W ∧ ∃ j : Int, 1 ≤ j ∧ j ≤ y ∧ yy = .int .i64 j ∧ nn = .int .i64 (yA j)) (fun _ yy _ => (y - intOf yy).toNat)
  case atStart => exact ⟨rfl, _, by omega, by omega, rfl, by rw [yA_400]⟩
  case round =>
    obtain ⟨rfl, j, j1, j2, rfl, rfl⟩ := hrel
    by_cases hj : j < y
    · have b1 := yA_bound j1 (by omega)
      have b2 := yA_bound (y := j + 1) (by omega) (by omega)
      have Y1 : Hid (Calls Tryz.prog 93 #[.int .i64 j] wr fun e w' => e = .returned (.int .i64 (yA (j + 1) - yA j)) ∧ w' = wr) := YL.out j _ _ j1 rfl
      have E1 : Hid (∀ x, yA j + (x - yA j) = x) := fun x => by omega
      generalize hy1 : yA (j + 1) = x1 at *
      generalize yA j = x0 at *
      go_wp2_with fail
      refine (Y1.out).mono ?_
      rintro e w1 ⟨rfl, hw⟩; rw [hw]; clear hw w1
      go_wp2_with fail
      go_roundw
      case rel => exact ⟨trivial, j + 1, by omega, by omega, rfl, by rw [hy1]; refine congrArg _ ?_; omega⟩
      case measure => simp [intOf]; omega
    · obtain rfl : j = y := by omega
      rw [← dA_one]
      have q1 : 0 ≤ dA j 1 ∧ dA j 1 ≤ 3652059 := dA_bound j1 y2 (by omega) (by omega)
      go_wp2_with fail
      go_loopw [5, 7] (fun nn mm w' => w' = wr ∧ ∃ i : Int, 1 ≤ i ∧ i ≤ m ∧ mm = .int .i64 i ∧ nn = .int .i64 (dA j i)) (fun _ mm _ => (m - intOf mm).toNat)
      case atStart => exact ⟨rfl, 1, by omega, by omega, rfl, rfl⟩
      case round =>
        obtain ⟨rfl, i, i1, i2, rfl, rfl⟩ := hrel
        by_cases hi : i < m
        · have b1 := dA_bound j1 y2 i1 (by omega)
          have b2 := dA_bound (m := i + 1) j1 y2 (by omega) (by omega)
          have M1 : Hid (Calls Tryz.prog 94 #[.int .i64 j, .int .i64 i] wr fun e w' => e = .returned (.int .i64 (dA j (i + 1) - dA j i)) ∧ w' = wr) := LO.out i _ _ i1 (by omega) rfl
          generalize hy1 : dA j (i + 1) = x1 at *
          generalize dA j i = x0 at *
          go_wp2_with fail
          refine (M1.out).mono ?_
          rintro e w1 ⟨rfl, hw⟩; rw [hw]; clear hw w1
          go_wp2_with fail
          go_roundw
          case rel => exact ⟨trivial, i + 1, by omega, by omega, rfl, by rw [hy1]; refine congrArg _ ?_; omega⟩
          case measure => simp [intOf]; omega
        · obtain rfl : i = m := by omega
          have q2 := dA_bound j1 y2 i1 m2
          have hn := HN.out
          generalize dA j i = x0 at *
          go_wp2_with fail
          go_ret2
          exact ⟨ret_ib (by omega) rfl, FIN.out 0⟩

set_option maxHeartbeats 1000000 in
theorem refNumber_no (y m k : Int) (h : ¬ Ok y m k) (w : World) :
    Calls Tryz.prog 95 #[.agg #[.int .i64 y, .int .i64 m, .int .i64 k]] w fun e w' => e = .returned (.tuple #[.int .i64 0, .bool false]) ∧ ∃ o n, w' = (w.alloc o).drewN n := by
  by_cases k0 : k < 1
  · have t1 : decide (k < 1) = true := decide_eq_true k0
    clear h
    go_enter Tryz.func95, Tryz.ntmps95
    go_wp2_with fail
    go_quiet (fail)
    go_wp2_with fail
    go_ret2
    exact ⟨rfl, _, _, rfl⟩
  · have t1 : decide (k < 1) = false := decide_eq_false k0
    obtain ⟨L, hk, ML⟩ : ∃ L, L < k ∧ Hid (∀ w, Calls Tryz.prog 118 #[.int .i64 y, .int .i64 m] w fun e w' => e = .returned (.int .i64 L) ∧ w' = w) := by
      by_cases g : 1 ≤ y ∧ y ≤ 9999 ∧ 1 ≤ m ∧ m ≤ 12
      · obtain ⟨y1, y2, m1, m2⟩ := g
        refine ⟨lenI y m, ?_, fun w => refMonthLen_at y m _ y1 y2 m1 m2 rfl w⟩
        rcases Int.lt_or_le (lenI y m) k with g | g
        · exact g
        · exact absurd ⟨y1, y2, m1, m2, by omega, g⟩ h
      · exact ⟨0, by omega, fun w => refMonthLen_no y m g w⟩
    have t2 : decide (L < k) = true := decide_eq_true hk
    clear h
    go_enter Tryz.func95, Tryz.ntmps95
    go_wp2_with fail
    go_quiet ((go_at_call 118; exact Calls.quiet_of_same (ML.out _)))
    go_wp2_with fail
    go_ret2
    exact ⟨rfl, _, _, rfl⟩
end Go.Proofs.YtgdmkcbbomfmdaaGreatDoor

namespace Go.Proofs.YtgdmkcbbomfmdaaGreatDoor
open Go.RowKit CalM

theorem refIsDay_at (y : Int) (b : Bool) (hb : decide (1 ≤ y ∧ y ≤ 3652059) = b) (w : World) :
    Calls Tryz.prog 92 #[.int .i64 y] w fun e w' => e = .returned (.bool b) ∧ w' = w := by
  by_cases h1 : 1 ≤ y
  · go_enter Tryz.func92, Tryz.ntmps92
    go_wp2
    go_ret
    exact ⟨ret_bool (by rw [← hb, Bool.eq_iff_iff]; simp; omega), rfl⟩
  · go_enter Tryz.func92, Tryz.ntmps92
    go_wp2
    go_ret
    exact ⟨ret_bool (by rw [← hb, Bool.eq_iff_iff]; simp; omega), rfl⟩

theorem refCivil_no (d : Int) (h : ¬(1 ≤ d ∧ d ≤ 3652059)) (w : World) :
    Calls Tryz.prog 52 #[.int .i64 d] w fun e w' => e = .returned (.tuple #[.agg #[.int .i64 0, .int .i64 0, .int .i64 0], .bool false]) ∧ ∃ o, w' = w.alloc o := by
  go_enter Tryz.func52, Tryz.ntmps52
  go_wp2_with fail
  refine (refIsDay_at d false (decide_eq_false h) _).mono ?_
  rintro e w1 ⟨rfl, hw⟩; rw [hw]; clear hw w1
  go_wp2_with fail
  exact bodyPost_cell_tmp rfl rfl w.heap.size _ _ _ _ rfl (heap_alloc_new _ _) Tryz.underlying108 rfl (by kernel_rfl) ⟨rfl, _, rfl⟩

set_option maxHeartbeats 2000000 in
theorem refCivil_at (y m k d : Int) (h : Ok y m k) (hd : dA y m + k = d) (w : World) :
    Calls Tryz.prog 52 #[.int .i64 d] w fun e w' => e = .returned (.tuple #[.agg #[.int .i64 y, .int .i64 m, .int .i64 k], .bool true]) ∧ ∃ o, w' = w.alloc o := by
  have hr := day_range h
  rw [hd] at hr
  obtain ⟨d1, d2⟩ := hr
  obtain ⟨y1, y2, m1, m2, k1, k2⟩ := h
  have low := dA_low y m m1 m2
  have upp := dA_high y m m1 m2
  have YL : Hid (∀ (j n : Int) (w : World), 1 ≤ j → yA (j + 1) - yA j = n → Calls Tryz.prog 93 #[.int .i64 j] w fun e w' => e = .returned (.int .i64 n) ∧ w' = w) := fun j n w j1 hn => yearLen_at j n j1 (by have := yA_succ j; omega) w
  have LO : Hid (∀ (j : Int) (w : World), 1 ≤ j → j ≤ 12 → Calls Tryz.prog 94 #[.int .i64 y, .int .i64 j] w fun e w' => e = .returned (.int .i64 (lenI y j)) ∧ w' = w) := fun j w j1 j2 => lenOf_at y j _ y1 j1 j2 rfl w
  have ST : Hid (400 * ((d - 1) / 146097) + 1 ≤ y) := by
    show 400 * ((d - 1) / 146097) + 1 ≤ y
    rcases Int.lt_or_le y (400 * ((d - 1) / 146097) + 1) with g | g
    · have e1 := yA_400 ((d - 1) / 146097)
      have e2 := yA_mono (a := y + 1) (b := 400 * ((d - 1) / 146097) + 1) (by omega)
      omega
    · exact g
  have S0 : Hid (yA (400 * ((d - 1) / 146097) + 1) = (d - 1) / 146097 * 146097) := yA_400 _
  have GY : Hid (∀ j : Int, 1 ≤ j → j < y → yA (j + 1) < d) := fun j j1 j2 => by have := yA_mono (a := j + 1) (b := y) (by omega); omega
  have GZ : Hid (d ≤ yA (y + 1)) := by show d ≤ yA (y + 1); omega
  have GM : Hid (∀ j : Int, 1 ≤ j → j < m → dA y j + lenI y j < d ∧ dA y (j + 1) = dA y j + lenI y j) := fun j j1 j2 => by
    have := dA_lt y j m j1 j2 m2
    have := dA_month y j j1 (by omega)
    omega
  have GN : Hid (d ≤ dA y m + lenI y m) := by show d ≤ dA y m + lenI y m; omega
  have HD : Hid (dA y m + k = d) := hd
  clear hd low upp k2
  go_enter Tryz.func52, Tryz.ntmps52
  go_wp2_with fail
  refine (refIsDay_at d true (decide_eq_true ⟨d1, d2⟩) _).mono ?_
  rintro e w1 ⟨rfl, hw⟩; rw [hw]; clear hw w1
  go_wp2_with fail
  go_loopw [5, 6] (fun ll yy w' => w' = w.alloc (.cells #[.int .i64 0, .int .i64 0, .int .i64 0] 108) ∧ ∃ j : Int, 1 ≤ j ∧ j ≤ y ∧ yy = .int .i64 j ∧ ll = .int .i64 (d - yA j)) (fun _ yy _ => (y - intOf yy).toNat)
  case atStart => exact ⟨rfl, _, by omega, ST.out, rfl, by rw [S0.out]⟩
  case round =>
    obtain ⟨rfl, j, j1, j2, rfl, rfl⟩ := hrel
    have b1 := yA_bound j1 (by omega)
    have Y1 : Hid (∀ w, Calls Tryz.prog 93 #[.int .i64 j] w fun e w' => e = .returned (.int .i64 (yA (j + 1) - yA j)) ∧ w' = w) := fun w => YL.out j _ w j1 rfl
    have b3 : yA (j + 1) - yA j = 365 + lp j := by have := yA_succ j; omega
    have b4 := lp_01 j
    by_cases hj : j < y
    · have g1 := GY.out j j1 hj
      generalize hy1 : yA (j + 1) = x1 at *
      generalize yA j = x0 at *
      generalize lp j = l0 at *
      have t1 : x1 - x0 < d - x0 := by omega
      go_wp2_with fail
      refine (Y1.out _).mono ?_
      rintro e w1 ⟨rfl, hw⟩; rw [hw]; clear hw w1
      go_wp2_with fail
      refine (Y1.out _).mono ?_
      rintro e w1 ⟨rfl, hw⟩; rw [hw]; clear hw w1
      go_wp2_with fail
      go_roundw
      case rel => exact ⟨trivial, j + 1, by omega, by omega, rfl, by rw [hy1]; refine congrArg _ ?_; omega⟩
      case measure => simp [intOf]; omega
    · obtain rfl : j = y := by omega
      have g1 := GZ.out
      have HX : Hid (dA j 1 = yA j) := dA_one j
      have b5 : 365 ≤ yA (j + 1) - yA j ∧ yA (j + 1) - yA j ≤ 366 := by omega
      clear b3 b4
      generalize yA (j + 1) = x1 at *
      generalize yA j = x0 at *
      have t1 : ¬ x1 - x0 < d - x0 := by omega
      go_wp2_with fail
      refine (Y1.out _).mono ?_
      rintro e w1 ⟨rfl, hw⟩; rw [hw]; clear hw w1
      go_wp2_with fail
      go_loopw [5, 7] (fun ll mm w' => w' = w.alloc (.cells #[.int .i64 0, .int .i64 0, .int .i64 0] 108) ∧ ∃ i : Int, 1 ≤ i ∧ i ≤ m ∧ mm = .int .i64 i ∧ ll = .int .i64 (d - dA j i)) (fun _ mm _ => (m - intOf mm).toNat)
      case atStart => exact ⟨rfl, 1, by omega, m1, rfl, by rw [HX.out]⟩
      case round =>
        obtain ⟨rfl, i, i1, i2, rfl, rfl⟩ := hrel
        have c1 := dA_bound (y := j) (m := i) j1 y2 i1 (by omega)
        have c2 := len_low j i
        have c3 := len_high j i
        have M1 : Hid (∀ w, Calls Tryz.prog 94 #[.int .i64 j, .int .i64 i] w fun e w' => e = .returned (.int .i64 (lenI j i)) ∧ w' = w) := fun w => LO.out i w i1 (by omega)
        by_cases hi : i < m
        · obtain ⟨g3, g4⟩ := GM.out i i1 hi
          generalize hx1 : dA j (i + 1) = z1 at *
          generalize dA j i = z0 at *
          generalize lenI j i = L at *
          have t2 : L < d - z0 := by omega
          go_wp2_with fail
          refine (M1.out _).mono ?_
          rintro e w1 ⟨rfl, hw⟩; rw [hw]; clear hw w1
          go_wp2_with fail
          refine (M1.out _).mono ?_
          rintro e w1 ⟨rfl, hw⟩; rw [hw]; clear hw w1
          go_wp2_with fail
          go_roundw
          case rel => exact ⟨trivial, i + 1, by omega, by omega, rfl, by rw [hx1]; refine congrArg _ ?_; omega⟩
          case measure => simp [intOf]; omega
        · obtain rfl : i = m := by omega
          have g5 := GN.out
          have g6 := HD.out
          generalize dA j i = z0 at *
          generalize lenI j i = L at *
          have t2 : ¬ L < k := by omega
          have ek : d - z0 = k := by omega
          rw [ek]
          clear g6 ek GN HD g5
          go_wp2_with fail
          refine (M1.out _).mono ?_
          rintro e w1 ⟨rfl, hw⟩; rw [hw]; clear hw w1
          go_wp2_with fail
          exact bodyPost_cell_tmp rfl rfl w.heap.size _ _ _ _ rfl (heap_alloc_new _ _) Tryz.underlying108 rfl (by kernel_rfl) ⟨rfl, _, rfl⟩

theorem refWeekday_at (d n : Int) (h1 : 1 ≤ d) (h2 : d ≤ 3652059) (hn : (d - 1) % 7 + 1 = n) (w : World) :
    Calls Tryz.prog 135 #[.int .i64 d] w fun e w' => e = .returned (.tuple #[.int .i64 n, .bool true]) ∧ w' = w := by
  go_enter Tryz.func135, Tryz.ntmps135
  go_wp2
  go_ret2
  exact ⟨ret_ib (by omega) rfl, rfl⟩
theorem refWeekday_no (d : Int) (h : ¬(1 ≤ d ∧ d ≤ 3652059)) (w : World) :
    Calls Tryz.prog 135 #[.int .i64 d] w fun e w' => e = .returned (.tuple #[.int .i64 0, .bool false]) ∧ w' = w := by
  by_cases h1 : 1 ≤ d
  · have h2 : ¬ d ≤ 3652059 := fun g => h ⟨h1, g⟩
    clear h
    go_enter Tryz.func135, Tryz.ntmps135
    go_wp2
    go_ret2
    exact ⟨rfl, rfl⟩
  · clear h
    go_enter Tryz.func135, Tryz.ntmps135
    go_wp2
    go_ret2
    exact ⟨rfl, rfl⟩
end Go.Proofs.YtgdmkcbbomfmdaaGreatDoor
