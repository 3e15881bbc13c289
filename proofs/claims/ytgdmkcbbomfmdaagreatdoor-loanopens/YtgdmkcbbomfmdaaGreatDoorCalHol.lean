/-
  Ours: contracts of the look through the holidays: slices.Contains, calendar.Business; the statements' and the document's own.
-/
import Derived.Test.YtgdmkcbbomfmdaaGreatDoorCalRef
namespace Go.Proofs.YtgdmkcbbomfmdaaGreatDoor
open Go.RowKit CalM

theorem refIsDay_at (y : Int) (b : Bool) (hb : decide (1 ≤ y ∧ y ≤ 3652059) = b) (w : World) :
    Calls Tryz.prog 92 #[.int .i64 y] w fun e w' => e = .returned (.bool b) ∧ w' = w := by
  by_cases h1 : 1 ≤ y
  · go_enter Tryz.func92, Tryz.ntmps92
    go_wp2
    go_ret
    exact ⟨ret_bool (by rw [← hb, Bool.eq_iff_iff]; simp; omega), rfl⟩
  · go_enter Tryz.func92, Tryz.ntmps92
    go_wp2
    go_ret
    exact ⟨ret_bool (by rw [← hb, Bool.eq_iff_iff]; simp; omega), rfl⟩

theorem refCivil_no (d : Int) (h : ¬(1 ≤ d ∧ d ≤ 3652059)) (w : World) :
    Calls Tryz.prog 52 #[.int .i64 d] w fun e w' => e = .returned (.tuple #[.agg #[.int .i64 0, .int .i64 0, .int .i64 0], .bool false]) ∧ ∃ o, w' = w.alloc o := by
  go_enter Tryz.func52, Tryz.ntmps52
  go_wp2_with fail
  refine (refIsDay_at d false (decide_eq_false h) _).mono ?_
  rintro e w1 ⟨rfl, hw⟩; rw [hw]; clear hw w1
  go_wp2_with fail
  exact bodyPost_cell_tmp rfl rfl w.heap.size _ _ _ _ rfl (heap_alloc_new _ _) Tryz.underlying108 rfl (by kernel_rfl) ⟨rfl, _, rfl⟩

set_option maxHeartbeats 2000000 in
theorem refCivil_at (y m k d : Int) (h : Ok y m k) (hd : dA y m + k = d) (w : World) :
    Calls Tryz.prog 52 #[.int .i64 d] w fun e w' => e = .returned (.tuple #[.agg #[.int .i64 y, .int .i64 m, .int .i64 k], .bool true]) ∧ ∃ o, w' = w.alloc o := by
  have hr := day_range h
  rw [hd] at hr
  obtain ⟨d1, d2⟩ := hr
  obtain ⟨y1, y2, m1, m2, k1, k2⟩ := h
  have low := dA_low y m m1 m2
  have upp := dA_high y m m1 m2
  have YL : Hid (∀ (j n : Int) (w : World), 1 ≤ j → yA (j + 1) - yA j = n → Calls Tryz.prog 93 #[.int .i64 j] w fun e w' => e = .returned (.int .i64 n) ∧ w' = w) := fun j n w j1 hn => yearLen_at j n j1 (by have := yA_succ j; omega) w
  have LO : Hid (∀ (j : Int) (w : World), 1 ≤ j → j ≤ 12 → Calls Tryz.prog 94 #[.int .i64 y, .int .i64 j] w fun e w' => e = .returned (.int .i64 (lenI y j)) ∧ w' = w) := fun j w j1 j2 => lenOf_at y j _ y1 j1 j2 rfl w
  have ST : Hid (400 * ((d - 1) / 146097) + 1 ≤ y) := by
    show 400 * ((d - 1) / 146097) + 1 ≤ y
    rcases Int.lt_or_le y (400 * ((d - 1) / 146097) + 1) with g | g
    · have e1 := yA_400 ((d - 1) / 146097)
      have e2 := yA_mono (a := y + 1) (b := 400 * ((d - 1) / 146097) + 1) (by omega)
      omega
    · exact g
  have S0 : Hid (yA (400 * ((d - 1) / 146097) + 1) = (d - 1) / 146097 * 146097) := yA_400 _
  have GY : Hid (∀ j : Int, 1 ≤ j → j < y → yA (j + 1) < d) := fun j j1 j2 => by have := yA_mono (a := j + 1) (b := y) (by omega); omega
  have GZ : Hid (d ≤ yA (y + 1)) := by show d ≤ yA (y + 1); omega
  have GM : Hid (∀ j : Int, 1 ≤ j → j < m → dA y j + lenI y j < d ∧ dA y (j + 1) = dA y j + lenI y j) := fun j j1 j2 => by
    have := dA_lt y j m j1 j2 m2
    have := dA_month y j j1 (by omega)
    omega
  have GN : Hid (d ≤ dA y m + lenI y m) := by show d ≤ dA y m + lenI y m; omega
  have HD : Hid (dA y m + k = d) := hd
  clear hd low upp k2
  go_enter Tryz.func52, Tryz.ntmps52
  go_wp2_with fail
  refine (refIsDay_at d true (decide_eq_true ⟨d1, d2⟩) _).mono ?_
  rintro e w1 ⟨rfl, hw⟩; rw [hw]; clear hw w1
  go_wp2_with fail
  go_loopw [5, 6] (fun ll yy w' => w' = w.alloc (.cells #[.int .i64 0, .int .i64 0, .int .i64 0] 108) ∧ ∃ j : Int, 1 ≤ j ∧ j ≤ y ∧ yy = .int .i64 j ∧ ll = .int .i64 (d - yA j)) (fun _ yy _ => (y - intOf yy).toNat)
  case atStart => exact ⟨rfl, _, by omega, ST.out, rfl, by rw [S0.out]⟩
  case round =>
    obtain ⟨rfl, j, j1, j2, rfl, rfl⟩ := hrel
    have b1 := yA_bound j1 (by omega)
    have Y1 : Hid (∀ w, Calls Tryz.prog 93 #[.int .i64 j] w fun e w' => e = .returned (.int .i64 (yA (j + 1) - yA j)) ∧ w' = w) := fun w => YL.out j _ w j1 rfl
    have b3 : yA (j + 1) - yA j = 365 + lp j := by have := yA_succ j; omega
    have b4 := lp_01 j
    by_cases hj : j < y
    · have g1 := GY.out j j1 hj
      generalize hy1 : yA (j + 1) = x1 at *
      generalize yA j = x0 at *
      generalize lp j = l0 at *
      have t1 : x1 - x0 < d - x0 := by omega
      go_wp2_with fail
      refine (Y1.out _).mono ?_
      rintro e w1 ⟨rfl, hw⟩; rw [hw]; clear hw w1
      go_wp2_with fail
      refine (Y1.out _).mono ?_
      rintro e w1 ⟨rfl, hw⟩; rw [hw]; clear hw w1
      go_wp2_with fail
      go_roundw
      case rel => exact ⟨trivial, j + 1, by omega, by omega, rfl, by rw [hy1]; refine congrArg _ ?_; omega⟩
      case measure => simp [intOf]; omega
    · obtain rfl : j = y := by omega
      have g1 := GZ.out
      have HX : Hid (dA j 1 = yA j) := dA_one j
      have b5 : 365 ≤ yA (j + 1) - yA j ∧ yA (j + 1) - yA j ≤ 366 := by omega
      clear b3 b4
      generalize yA (j + 1) = x1 at *
      generalize yA j = x0 at *
      have t1 : ¬ x1 - x0 < d - x0 := by omega
      go_wp2_with fail
      refine (Y1.out _).mono ?_
      rintro e w1 ⟨rfl, hw⟩; rw [hw]; clear hw w1
      go_wp2_with fail
      go_loopw [5, 7] (fun ll mm w' => w' = w.alloc (.cells #[.int .i64 0, .int .i64 0, .int .i64 0] 108) ∧ ∃ i : Int, 1 ≤ i ∧ i ≤ m ∧ mm = .int .i64 i ∧ ll = .int .i64 (d - dA j i)) (fun _ mm _ => (m - intOf mm).toNat)
      case atStart => exact ⟨rfl, 1, by omega, m1, rfl, by rw [HX.out]⟩
      case round =>
        obtain ⟨rfl, i, i1, i2, rfl, rfl⟩ := hrel
        have c1 := dA_bound (y := j) (m := i) j1 y2 i1 (by omega)
        have c2 := len_low j i
        have c3 := len_high j i
        have M1 : Hid (∀ w, Calls Tryz.prog 94 #[.int .i64 j, .int .i64 i] w fun e w' => e = .returned (.int .i64 (lenI j i)) ∧ w' = w) := fun w => LO.out i w i1 (by omega)
        by_cases hi : i < m
        · obtain ⟨g3, g4⟩ := GM.out i i1 hi
          generalize hx1 : dA j (i + 1) = z1 at *
          generalize dA j i = z0 at *
          generalize lenI j i = L at *
          have t2 : L < d - z0 := by omega
          go_wp2_with fail
          refine (M1.out _).mono ?_
          rintro e w1 ⟨rfl, hw⟩; rw [hw]; clear hw w1
          go_wp2_with fail
          refine (M1.out _).mono ?_
          rintro e w1 ⟨rfl, hw⟩; rw [hw]; clear hw w1
          go_wp2_with fail
          go_roundw
          case rel => exact ⟨trivial, i + 1, by omega, by omega, rfl, by rw [hx1]; refine congrArg _ ?_; omega⟩
          case measure => simp [intOf]; omega
        · obtain rfl : i = m := by omega
          have g5 := GN.out
          have g6 := HD.out
          generalize dA j i = z0 at *
          generalize lenI j i = L at *
          have t2 : ¬ L < k := by omega
          have ek : d - z0 = k := by omega
          rw [ek]
          clear g6 ek GN HD g5
          go_wp2_with fail
          refine (M1.out _).mono ?_
          rintro e w1 ⟨rfl, hw⟩; rw [hw]; clear hw w1
          go_wp2_with fail
          exact bodyPost_cell_tmp rfl rfl w.heap.size _ _ _ _ rfl (heap_alloc_new _ _) Tryz.underlying108 rfl (by kernel_rfl) ⟨rfl, _, rfl⟩

theorem refWeekday_at (d n : Int) (h1 : 1 ≤ d) (h2 : d ≤ 3652059) (hn : (d - 1) % 7 + 1 = n) (w : World) :
    Calls Tryz.prog 135 #[.int .i64 d] w fun e w' => e = .returned (.tuple #[.int .i64 n, .bool true]) ∧ w' = w := by
  go_enter Tryz.func135, Tryz.ntmps135
  go_wp2
  go_ret2
  exact ⟨ret_ib (by omega) rfl, rfl⟩
theorem refWeekday_no (d : Int) (h : ¬(1 ≤ d ∧ d ≤ 3652059)) (w : World) :
    Calls Tryz.prog 135 #[.int .i64 d] w fun e w' => e = .returned (.tuple #[.int .i64 0, .bool false]) ∧ w' = w := by
  by_cases h1 : 1 ≤ d
  · have h2 : ¬ d ≤ 3652059 := fun g => h ⟨h1, g⟩
    clear h
    go_enter Tryz.func135, Tryz.ntmps135
    go_wp2
    go_ret2
    exact ⟨rfl, rfl⟩
  · clear h
    go_enter Tryz.func135, Tryz.ntmps135
    go_wp2
    go_ret2
    exact ⟨rfl, rfl⟩
end Go.Proofs.YtgdmkcbbomfmdaaGreatDoor

namespace Go.Proofs.YtgdmkcbbomfmdaaGreatDoor
open Go.RowKit CalM

/-- A slice whose first cells hold the numbers xs. -/
def SlOk (w : World) (a : Option Addr) (xs : List Int) : Prop :=
  xs.length ≤ 9223372036854775807 ∧ (xs = [] ∨ ∃ b off : Nat, a = some ⟨b, off, none⟩ ∧ ∀ i, i < xs.length → w.cell? ⟨b, off + i, none⟩ = some (.int .i64 (xs.getD i 0)))
theorem SlOk.up {w w' : World} {a : Option Addr} {xs : List Int} (h : SlOk w a xs) (u : Up w w') : SlOk w' a xs := by
  obtain ⟨h1, h2⟩ := h
  refine ⟨h1, ?_⟩
  rcases h2 with h2 | ⟨b, off, h2, h3⟩
  · exact .inl h2
  · exact .inr ⟨b, off, h2, fun i hi => u.cell (h3 i hi)⟩
theorem slOk_nil (w : World) : SlOk w none [] := ⟨by simp, .inl rfl⟩

theorem getD_mem {xs : List Int} {i : Nat} (h : i < xs.length) : xs.getD i 0 ∈ xs := by
  rw [List.getD_eq_getElem?_getD, List.getElem?_eq_getElem h]; exact List.getElem_mem h
theorem not_mem_of {xs : List Int} {d : Int} (h : ∀ i, i < xs.length → xs.getD i 0 ≠ d) : d ∉ xs := by
  intro g
  obtain ⟨i, hi, e⟩ := List.mem_iff_getElem.1 g
  have := h i hi
  rw [List.getD_eq_getElem?_getD, List.getElem?_eq_getElem hi] at this
  exact this e

/-- What such a slice tells while its cells are looked through. -/
theorem SlOk.at {w : World} {a : Option Addr} {xs : List Int} (h : SlOk w a xs) {k : Nat} (hk : k < xs.length) : ∃ b off : Nat, a = some ⟨b, off, none⟩ ∧ w.cell? ⟨b, off + k, none⟩ = some (.int .i64 (xs.getD k 0)) := by
  rcases h.2 with g | ⟨b, off, g, hc⟩
  · rw [g] at hk; simp at hk
  · exact ⟨b, off, g, hc k hk⟩

set_option maxHeartbeats 1000000 in
theorem index_at (a : Option Addr) (cap : Nat) (xs : List Int) (d : Int) (w : World) (h : SlOk w a xs) :
    Calls Tryz.prog 145 #[.slice a xs.length cap, .int .i64 d] w fun e w' => (∃ n : Int, e = .returned (.int .i64 n) ∧ Hid (0 ≤ n ↔ d ∈ xs)) ∧ w' = w := by
  obtain ⟨L, hL⟩ : ∃ L, xs.length = L := ⟨_, rfl⟩
  have h1 := h.1
  have HC : Hid (SlOk w a xs) := h
  have HL : Hid (xs.length = L) := hL
  rw [hL] at h1
  rw [hL]
  clear h hL
  go_enter Tryz.func145, Tryz.ntmps145
  go_wp2_with fail
  go_loopw [8] (fun kk w' => w' = w ∧ ∃ k : Nat, k ≤ L ∧ kk = .int .i64 (k : Int) ∧ Hid (∀ i, i < k → xs.getD i 0 ≠ d)) (fun kk _ => L - (intOf kk).toNat)
  case atStart => exact ⟨rfl, 0, by omega, rfl, fun i hi => by omega⟩
  case round =>
    obtain ⟨rfl, k, hk, rfl, hne⟩ := hrel
    by_cases hlt : (k : Int) < (L : Int)
    · obtain ⟨b, off, rfl, cx⟩ := HC.out.at (k := k) (by rw [HL.out]; omega)
      by_cases he : d = xs.getD k 0
      · have MEM : Hid (d ∈ xs) := by rw [he]; exact getD_mem (by rw [HL.out]; omega)
        rw [← he] at cx
        go_wp2_with fail
        go_ret
        exact ⟨⟨_, rfl, ⟨fun _ => MEM.out, fun _ => by omega⟩⟩, rfl⟩
      · have HE : Hid (xs.getD k 0 ≠ d) := fun g => he g.symm
        have NE : Hid (∀ i, i < k + 1 → xs.getD i 0 ≠ d) := fun i hi => by
          rcases Nat.lt_or_ge i k with g | g
          · exact hne.out i g
          · obtain rfl : i = k := by omega
            exact HE.out
        generalize xs.getD k 0 = x at *
        have hb : (d == x) = false := by rw [beq_eq_false_iff_ne]; exact he
        go_wp2_with fail
        go_roundw
        case rel =>
          exact ⟨trivial, k + 1, by omega, by go_num, NE.out⟩
        case measure => simp [intOf]; omega
    · obtain rfl : k = L := by omega
      go_wp2_with fail
      go_ret
      exact ⟨⟨_, rfl, ⟨fun g => by omega, fun g => absurd g (not_mem_of (fun i hi => hne.out i (by rw [← HL.out]; exact hi)))⟩⟩, rfl⟩
end Go.Proofs.YtgdmkcbbomfmdaaGreatDoor
