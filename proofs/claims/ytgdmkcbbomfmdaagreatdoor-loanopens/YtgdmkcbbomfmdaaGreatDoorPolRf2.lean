/-
  Ours: the document's may, Check, good, Backoff, Bound, Window (gen_polrf2.py).
-/
import Derived.Test.YtgdmkcbbomfmdaaGreatDoorPolRef
import Derived.Test.YtgdmkcbbomfmdaaGreatDoorPolPrg
namespace Go.Proofs.YtgdmkcbbomfmdaaGreatDoor
open Go.RowKit LedM PolM

theorem in_at (x a b : Int) (w : World) : Calls Tryz.prog 90 #[.int .i64 x, .int .i64 a, .int .i64 b] w fun e w' => e = .returned (.bool (decide (a ≤ x ∧ x ≤ b))) ∧ w' = w := by
  by_cases h1 : a ≤ x
  · by_cases h2 : x ≤ b
    · rw [decide_eq_true ⟨h1, h2⟩]
      go_enter Tryz.func90, Tryz.ntmps90
      go_wp2_with fail
      go_ret
      exact ⟨rfl, rfl⟩
    · rw [decide_eq_false (fun h => h2 h.2)]
      go_enter Tryz.func90, Tryz.ntmps90
      go_wp2_with fail
      go_ret
      exact ⟨rfl, rfl⟩
  · rw [decide_eq_false (fun h => h1 h.1)]
    go_enter Tryz.func90, Tryz.ntmps90
    go_wp2_with fail
    go_ret
    exact ⟨rfl, rfl⟩

set_option maxRecDepth 20000 in
set_option maxHeartbeats 2000000 in
theorem may0_at (l : List Int) (s : Value) (hl : l.length = 17) (w : World) : Calls Tryz.prog 49 #[PV l s, .int .i64 1] w fun e w' => e = .returned (.bool (fld l 0)) ∧ Below w.heap.size w w' := by
  show Calls _ _ #[.agg (polL l s).toArray, _] _ _
  have NB := Blk.new 24 (polL l s) w
  have c0 := NB.cell 0 _ (polL_at hl 0 (by omega))
  have BB : Hid (Below w.heap.size w (w.alloc (.cells (polL l s).toArray 24))) := below_alloc _ _
  have FD : Hid (fld l 0 = decide (1 ≤ l.getD 0 0 ∧ l.getD 0 0 ≤ 3652059)) := rfl
  have IN : Hid (∀ w : World, Calls Tryz.prog 90 #[.int .i64 (l.getD 0 0), .int .i64 (1), .int .i64 3652059] w fun e w' => e = .returned (.bool (fld l 0)) ∧ w' = w) := fun w => by rw [FD.out]; exact in_at _ _ _ w
  clear NB hl FD
  generalize fld l 0 = B at *
  generalize l.getD 0 0 = x at *
  generalize polL l s = cs at *
  go_enter Tryz.func49, Tryz.ntmps49
  go_wp2_with fail
  refine (IN.out _).mono ?_
  rintro e w' ⟨rfl, rfl⟩
  go_wp2_with fail
  go_ret
  exact ⟨rfl, BB.out⟩

set_option maxRecDepth 20000 in
set_option maxHeartbeats 2000000 in
theorem may1_at (l : List Int) (s : Value) (hl : l.length = 17) (w : World) : Calls Tryz.prog 49 #[PV l s, .int .i64 2] w fun e w' => e = .returned (.bool (fld l 1)) ∧ Below w.heap.size w w' := by
  show Calls _ _ #[.agg (polL l s).toArray, _] _ _
  have NB := Blk.new 24 (polL l s) w
  have c0 := NB.cell 1 _ (polL_at hl 1 (by omega))
  have BB : Hid (Below w.heap.size w (w.alloc (.cells (polL l s).toArray 24))) := below_alloc _ _
  have FD : Hid (fld l 1 = decide (0 ≤ l.getD 1 0 ∧ l.getD 1 0 ≤ 30)) := rfl
  have IN : Hid (∀ w : World, Calls Tryz.prog 90 #[.int .i64 (l.getD 1 0), .int .i64 (0), .int .i64 30] w fun e w' => e = .returned (.bool (fld l 1)) ∧ w' = w) := fun w => by rw [FD.out]; exact in_at _ _ _ w
  clear NB hl FD
  generalize fld l 1 = B at *
  generalize l.getD 1 0 = x at *
  generalize polL l s = cs at *
  go_enter Tryz.func49, Tryz.ntmps49
  go_wp2_with fail
  refine (IN.out _).mono ?_
  rintro e w' ⟨rfl, rfl⟩
  go_wp2_with fail
  go_ret
  exact ⟨rfl, BB.out⟩

set_option maxRecDepth 20000 in
set_option maxHeartbeats 2000000 in
theorem may2_at (l : List Int) (s : Value) (hl : l.length = 17) (w : World) : Calls Tryz.prog 49 #[PV l s, .int .i64 3] w fun e w' => e = .returned (.bool (fld l 2)) ∧ Below w.heap.size w w' := by
  show Calls _ _ #[.agg (polL l s).toArray, _] _ _
  have NB := Blk.new 24 (polL l s) w
  have c0 := NB.cell 2 _ (polL_at hl 2 (by omega))
  have c1 := NB.cell 1 _ (polL_at hl 1 (by omega))
  have BB : Hid (Below w.heap.size w (w.alloc (.cells (polL l s).toArray 24))) := below_alloc _ _
  have FD : Hid (fld l 2 = decide (l.getD 1 0 + 1 ≤ l.getD 2 0 ∧ l.getD 2 0 ≤ 365)) := rfl
  clear NB hl
  generalize fld l 2 = B at *
  generalize l.getD 2 0 = x at *
  generalize l.getD 1 0 = y at *
  generalize polL l s = cs at *
  by_cases h1 : y < x
  · by_cases h2 : x ≤ 365
    · obtain rfl : B = true := by rw [FD.out]; exact decide_eq_true ⟨by omega, h2⟩
      go_enter Tryz.func49, Tryz.ntmps49
      go_wp2_with fail
      go_ret
      exact ⟨rfl, BB.out⟩
    · obtain rfl : B = false := by rw [FD.out]; exact decide_eq_false (fun h => h2 h.2)
      go_enter Tryz.func49, Tryz.ntmps49
      go_wp2_with fail
      go_ret
      exact ⟨rfl, BB.out⟩
  · obtain rfl : B = false := by rw [FD.out]; exact decide_eq_false (fun h => h1 (by omega))
    go_enter Tryz.func49, Tryz.ntmps49
    go_wp2_with fail
    go_ret
    exact ⟨rfl, BB.out⟩

set_option maxRecDepth 20000 in
set_option maxHeartbeats 2000000 in
theorem may3_at (l : List Int) (s : Value) (hl : l.length = 17) (w : World) : Calls Tryz.prog 49 #[PV l s, .int .i64 4] w fun e w' => e = .returned (.bool (fld l 3)) ∧ Below w.heap.size w w' := by
  show Calls _ _ #[.agg (polL l s).toArray, _] _ _
  have NB := Blk.new 24 (polL l s) w
  have c0 := NB.cell 3 _ (polL_at hl 3 (by omega))
  have BB : Hid (Below w.heap.size w (w.alloc (.cells (polL l s).toArray 24))) := below_alloc _ _
  have FD : Hid (fld l 3 = decide (1 ≤ l.getD 3 0 ∧ l.getD 3 0 ≤ 365)) := rfl
  have IN : Hid (∀ w : World, Calls Tryz.prog 90 #[.int .i64 (l.getD 3 0), .int .i64 (1), .int .i64 365] w fun e w' => e = .returned (.bool (fld l 3)) ∧ w' = w) := fun w => by rw [FD.out]; exact in_at _ _ _ w
  clear NB hl FD
  generalize fld l 3 = B at *
  generalize l.getD 3 0 = x at *
  generalize polL l s = cs at *
  go_enter Tryz.func49, Tryz.ntmps49
  go_wp2_with fail
  refine (IN.out _).mono ?_
  rintro e w' ⟨rfl, rfl⟩
  go_wp2_with fail
  go_ret
  exact ⟨rfl, BB.out⟩

set_option maxRecDepth 20000 in
set_option maxHeartbeats 2000000 in
theorem may4_at (l : List Int) (s : Value) (hl : l.length = 17) (w : World) : Calls Tryz.prog 49 #[PV l s, .int .i64 5] w fun e w' => e = .returned (.bool (fld l 4)) ∧ Below w.heap.size w w' := by
  show Calls _ _ #[.agg (polL l s).toArray, _] _ _
  have NB := Blk.new 24 (polL l s) w
  have c0 := NB.cell 4 _ (polL_at hl 4 (by omega))
  have BB : Hid (Below w.heap.size w (w.alloc (.cells (polL l s).toArray 24))) := below_alloc _ _
  have FD : Hid (fld l 4 = decide (0 ≤ l.getD 4 0 ∧ l.getD 4 0 ≤ 10000)) := rfl
  have IN : Hid (∀ w : World, Calls Tryz.prog 90 #[.int .i64 (l.getD 4 0), .int .i64 (0), .int .i64 10000] w fun e w' => e = .returned (.bool (fld l 4)) ∧ w' = w) := fun w => by rw [FD.out]; exact in_at _ _ _ w
  clear NB hl FD
  generalize fld l 4 = B at *
  generalize l.getD 4 0 = x at *
  generalize polL l s = cs at *
  go_enter Tryz.func49, Tryz.ntmps49
  go_wp2_with fail
  refine (IN.out _).mono ?_
  rintro e w' ⟨rfl, rfl⟩
  go_wp2_with fail
  go_ret
  exact ⟨rfl, BB.out⟩

set_option maxRecDepth 20000 in
set_option maxHeartbeats 2000000 in
theorem may5_at (l : List Int) (s : Value) (hl : l.length = 17) (w : World) : Calls Tryz.prog 49 #[PV l s, .int .i64 6] w fun e w' => e = .returned (.bool (fld l 5)) ∧ Below w.heap.size w w' := by
  show Calls _ _ #[.agg (polL l s).toArray, _] _ _
  have NB := Blk.new 24 (polL l s) w
  have c0 := NB.cell 5 _ (polL_at hl 5 (by omega))
  have BB : Hid (Below w.heap.size w (w.alloc (.cells (polL l s).toArray 24))) := below_alloc _ _
  have FD : Hid (fld l 5 = decide (0 ≤ l.getD 5 0 ∧ l.getD 5 0 ≤ 1000000000)) := rfl
  have IN : Hid (∀ w : World, Calls Tryz.prog 90 #[.int .i64 (l.getD 5 0), .int .i64 (0), .int .i64 1000000000] w fun e w' => e = .returned (.bool (fld l 5)) ∧ w' = w) := fun w => by rw [FD.out]; exact in_at _ _ _ w
  clear NB hl FD
  generalize fld l 5 = B at *
  generalize l.getD 5 0 = x at *
  generalize polL l s = cs at *
  go_enter Tryz.func49, Tryz.ntmps49
  go_wp2_with fail
  refine (IN.out _).mono ?_
  rintro e w' ⟨rfl, rfl⟩
  go_wp2_with fail
  go_ret
  exact ⟨rfl, BB.out⟩

set_option maxRecDepth 20000 in
set_option maxHeartbeats 2000000 in
theorem may6_at (l : List Int) (s : Value) (hl : l.length = 17) (w : World) : Calls Tryz.prog 49 #[PV l s, .int .i64 7] w fun e w' => e = .returned (.bool (fld l 6)) ∧ Below w.heap.size w w' := by
  show Calls _ _ #[.agg (polL l s).toArray, _] _ _
  have NB := Blk.new 24 (polL l s) w
  have c0 := NB.cell 6 _ (polL_at hl 6 (by omega))
  have c1 := NB.cell 5 _ (polL_at hl 5 (by omega))
  have BB : Hid (Below w.heap.size w (w.alloc (.cells (polL l s).toArray 24))) := below_alloc _ _
  have FD : Hid (fld l 6 = decide (l.getD 5 0 ≤ l.getD 6 0 ∧ l.getD 6 0 ≤ 1000000000)) := rfl
  have IN : Hid (∀ w : World, Calls Tryz.prog 90 #[.int .i64 (l.getD 6 0), .int .i64 (l.getD 5 0), .int .i64 1000000000] w fun e w' => e = .returned (.bool (fld l 6)) ∧ w' = w) := fun w => by rw [FD.out]; exact in_at _ _ _ w
  clear NB hl FD
  generalize fld l 6 = B at *
  generalize l.getD 6 0 = x at *
  generalize l.getD 5 0 = y at *
  generalize polL l s = cs at *
  go_enter Tryz.func49, Tryz.ntmps49
  go_wp2_with fail
  refine (IN.out _).mono ?_
  rintro e w' ⟨rfl, rfl⟩
  go_wp2_with fail
  go_ret
  exact ⟨rfl, BB.out⟩

set_option maxRecDepth 20000 in
set_option maxHeartbeats 2000000 in
theorem may7_at (l : List Int) (s : Value) (hl : l.length = 17) (w : World) : Calls Tryz.prog 49 #[PV l s, .int .i64 8] w fun e w' => e = .returned (.bool (fld l 7)) ∧ Below w.heap.size w w' := by
  show Calls _ _ #[.agg (polL l s).toArray, _] _ _
  have NB := Blk.new 24 (polL l s) w
  have c0 := NB.cell 7 _ (polL_at hl 7 (by omega))
  have BB : Hid (Below w.heap.size w (w.alloc (.cells (polL l s).toArray 24))) := below_alloc _ _
  have FD : Hid (fld l 7 = decide (0 ≤ l.getD 7 0 ∧ l.getD 7 0 ≤ 1000000000)) := rfl
  have IN : Hid (∀ w : World, Calls Tryz.prog 90 #[.int .i64 (l.getD 7 0), .int .i64 (0), .int .i64 1000000000] w fun e w' => e = .returned (.bool (fld l 7)) ∧ w' = w) := fun w => by rw [FD.out]; exact in_at _ _ _ w
  clear NB hl FD
  generalize fld l 7 = B at *
  generalize l.getD 7 0 = x at *
  generalize polL l s = cs at *
  go_enter Tryz.func49, Tryz.ntmps49
  go_wp2_with fail
  refine (IN.out _).mono ?_
  rintro e w' ⟨rfl, rfl⟩
  go_wp2_with fail
  go_ret
  exact ⟨rfl, BB.out⟩

set_option maxRecDepth 20000 in
set_option maxHeartbeats 2000000 in
theorem may8_at (l : List Int) (s : Value) (hl : l.length = 17) (w : World) : Calls Tryz.prog 49 #[PV l s, .int .i64 9] w fun e w' => e = .returned (.bool (fld l 8)) ∧ Below w.heap.size w w' := by
  show Calls _ _ #[.agg (polL l s).toArray, _] _ _
  have NB := Blk.new 24 (polL l s) w
  have c0 := NB.cell 8 _ (polL_at hl 8 (by omega))
  have BB : Hid (Below w.heap.size w (w.alloc (.cells (polL l s).toArray 24))) := below_alloc _ _
  have FD : Hid (fld l 8 = decide (0 ≤ l.getD 8 0 ∧ l.getD 8 0 ≤ 1000000000)) := rfl
  have IN : Hid (∀ w : World, Calls Tryz.prog 90 #[.int .i64 (l.getD 8 0), .int .i64 (0), .int .i64 1000000000] w fun e w' => e = .returned (.bool (fld l 8)) ∧ w' = w) := fun w => by rw [FD.out]; exact in_at _ _ _ w
  clear NB hl FD
  generalize fld l 8 = B at *
  generalize l.getD 8 0 = x at *
  generalize polL l s = cs at *
  go_enter Tryz.func49, Tryz.ntmps49
  go_wp2_with fail
  refine (IN.out _).mono ?_
  rintro e w' ⟨rfl, rfl⟩
  go_wp2_with fail
  go_ret
  exact ⟨rfl, BB.out⟩

set_option maxRecDepth 20000 in
set_option maxHeartbeats 2000000 in
theorem may9_at (l : List Int) (s : Value) (hl : l.length = 17) (w : World) : Calls Tryz.prog 49 #[PV l s, .int .i64 10] w fun e w' => e = .returned (.bool (fld l 9)) ∧ Below w.heap.size w w' := by
  show Calls _ _ #[.agg (polL l s).toArray, _] _ _
  have NB := Blk.new 24 (polL l s) w
  have c0 := NB.cell 9 _ (polL_at hl 9 (by omega))
  have BB : Hid (Below w.heap.size w (w.alloc (.cells (polL l s).toArray 24))) := below_alloc _ _
  have FD : Hid (fld l 9 = decide (0 ≤ l.getD 9 0 ∧ l.getD 9 0 ≤ 8)) := rfl
  have IN : Hid (∀ w : World, Calls Tryz.prog 90 #[.int .i64 (l.getD 9 0), .int .i64 (0), .int .i64 8] w fun e w' => e = .returned (.bool (fld l 9)) ∧ w' = w) := fun w => by rw [FD.out]; exact in_at _ _ _ w
  clear NB hl FD
  generalize fld l 9 = B at *
  generalize l.getD 9 0 = x at *
  generalize polL l s = cs at *
  go_enter Tryz.func49, Tryz.ntmps49
  go_wp2_with fail
  refine (IN.out _).mono ?_
  rintro e w' ⟨rfl, rfl⟩
  go_wp2_with fail
  go_ret
  exact ⟨rfl, BB.out⟩

set_option maxRecDepth 20000 in
set_option maxHeartbeats 2000000 in
theorem may10_at (l : List Int) (s : Value) (hl : l.length = 17) (w : World) : Calls Tryz.prog 49 #[PV l s, .int .i64 11] w fun e w' => e = .returned (.bool (fld l 10)) ∧ Below w.heap.size w w' := by
  show Calls _ _ #[.agg (polL l s).toArray, _] _ _
  have NB := Blk.new 24 (polL l s) w
  have c0 := NB.cell 10 _ (polL_at hl 10 (by omega))
  have BB : Hid (Below w.heap.size w (w.alloc (.cells (polL l s).toArray 24))) := below_alloc _ _
  have FD : Hid (fld l 10 = decide (1 ≤ l.getD 10 0 ∧ l.getD 10 0 ≤ 60)) := rfl
  have IN : Hid (∀ w : World, Calls Tryz.prog 90 #[.int .i64 (l.getD 10 0), .int .i64 (1), .int .i64 60] w fun e w' => e = .returned (.bool (fld l 10)) ∧ w' = w) := fun w => by rw [FD.out]; exact in_at _ _ _ w
  clear NB hl FD
  generalize fld l 10 = B at *
  generalize l.getD 10 0 = x at *
  generalize polL l s = cs at *
  go_enter Tryz.func49, Tryz.ntmps49
  go_wp2_with fail
  refine (IN.out _).mono ?_
  rintro e w' ⟨rfl, rfl⟩
  go_wp2_with fail
  go_ret
  exact ⟨rfl, BB.out⟩

set_option maxRecDepth 20000 in
set_option maxHeartbeats 2000000 in
theorem may11_at (l : List Int) (s : Value) (hl : l.length = 17) (w : World) : Calls Tryz.prog 49 #[PV l s, .int .i64 12] w fun e w' => e = .returned (.bool (fld l 11)) ∧ Below w.heap.size w w' := by
  show Calls _ _ #[.agg (polL l s).toArray, _] _ _
  have NB := Blk.new 24 (polL l s) w
  have c0 := NB.cell 11 _ (polL_at hl 11 (by omega))
  have BB : Hid (Below w.heap.size w (w.alloc (.cells (polL l s).toArray 24))) := below_alloc _ _
  have FD : Hid (fld l 11 = decide (0 ≤ l.getD 11 0 ∧ l.getD 11 0 ≤ 4)) := rfl
  have IN : Hid (∀ w : World, Calls Tryz.prog 90 #[.int .i64 (l.getD 11 0), .int .i64 (0), .int .i64 4] w fun e w' => e = .returned (.bool (fld l 11)) ∧ w' = w) := fun w => by rw [FD.out]; exact in_at _ _ _ w
  clear NB hl FD
  generalize fld l 11 = B at *
  generalize l.getD 11 0 = x at *
  generalize polL l s = cs at *
  go_enter Tryz.func49, Tryz.ntmps49
  go_wp2_with fail
  refine (IN.out _).mono ?_
  rintro e w' ⟨rfl, rfl⟩
  go_wp2_with fail
  go_ret
  exact ⟨rfl, BB.out⟩

set_option maxRecDepth 20000 in
set_option maxHeartbeats 2000000 in
theorem may12_at (l : List Int) (s : Value) (hl : l.length = 17) (w : World) : Calls Tryz.prog 49 #[PV l s, .int .i64 13] w fun e w' => e = .returned (.bool (fld l 12)) ∧ Below w.heap.size w w' := by
  show Calls _ _ #[.agg (polL l s).toArray, _] _ _
  have NB := Blk.new 24 (polL l s) w
  have c0 := NB.cell 12 _ (polL_at hl 12 (by omega))
  have BB : Hid (Below w.heap.size w (w.alloc (.cells (polL l s).toArray 24))) := below_alloc _ _
  have FD : Hid (fld l 12 = decide (0 ≤ l.getD 12 0 ∧ l.getD 12 0 ≤ 5)) := rfl
  have IN : Hid (∀ w : World, Calls Tryz.prog 90 #[.int .i64 (l.getD 12 0), .int .i64 (0), .int .i64 5] w fun e w' => e = .returned (.bool (fld l 12)) ∧ w' = w) := fun w => by rw [FD.out]; exact in_at _ _ _ w
  clear NB hl FD
  generalize fld l 12 = B at *
  generalize l.getD 12 0 = x at *
  generalize polL l s = cs at *
  go_enter Tryz.func49, Tryz.ntmps49
  go_wp2_with fail
  refine (IN.out _).mono ?_
  rintro e w' ⟨rfl, rfl⟩
  go_wp2_with fail
  go_ret
  exact ⟨rfl, BB.out⟩

set_option maxRecDepth 20000 in
set_option maxHeartbeats 2000000 in
theorem may13_at (l : List Int) (s : Value) (hl : l.length = 17) (w : World) : Calls Tryz.prog 49 #[PV l s, .int .i64 14] w fun e w' => e = .returned (.bool (fld l 13)) ∧ Below w.heap.size w w' := by
  show Calls _ _ #[.agg (polL l s).toArray, _] _ _
  have NB := Blk.new 24 (polL l s) w
  have c0 := NB.cell 13 _ (polL_at hl 13 (by omega))
  have BB : Hid (Below w.heap.size w (w.alloc (.cells (polL l s).toArray 24))) := below_alloc _ _
  have FD : Hid (fld l 13 = decide (0 ≤ l.getD 13 0 ∧ l.getD 13 0 ≤ 3)) := rfl
  have IN : Hid (∀ w : World, Calls Tryz.prog 90 #[.int .i64 (l.getD 13 0), .int .i64 (0), .int .i64 3] w fun e w' => e = .returned (.bool (fld l 13)) ∧ w' = w) := fun w => by rw [FD.out]; exact in_at _ _ _ w
  clear NB hl FD
  generalize fld l 13 = B at *
  generalize l.getD 13 0 = x at *
  generalize polL l s = cs at *
  go_enter Tryz.func49, Tryz.ntmps49
  go_wp2_with fail
  refine (IN.out _).mono ?_
  rintro e w' ⟨rfl, rfl⟩
  go_wp2_with fail
  go_ret
  exact ⟨rfl, BB.out⟩

set_option maxRecDepth 20000 in
set_option maxHeartbeats 2000000 in
theorem may14_at (l : List Int) (s : Value) (hl : l.length = 17) (w : World) : Calls Tryz.prog 49 #[PV l s, .int .i64 15] w fun e w' => e = .returned (.bool (fld l 14)) ∧ Below w.heap.size w w' := by
  show Calls _ _ #[.agg (polL l s).toArray, _] _ _
  have NB := Blk.new 24 (polL l s) w
  have c0 := NB.cell 14 _ (polL_at hl 14 (by omega))
  have BB : Hid (Below w.heap.size w (w.alloc (.cells (polL l s).toArray 24))) := below_alloc _ _
  have FD : Hid (fld l 14 = decide (1 ≤ l.getD 14 0 ∧ l.getD 14 0 ≤ 64)) := rfl
  have IN : Hid (∀ w : World, Calls Tryz.prog 90 #[.int .i64 (l.getD 14 0), .int .i64 (1), .int .i64 64] w fun e w' => e = .returned (.bool (fld l 14)) ∧ w' = w) := fun w => by rw [FD.out]; exact in_at _ _ _ w
  clear NB hl FD
  generalize fld l 14 = B at *
  generalize l.getD 14 0 = x at *
  generalize polL l s = cs at *
  go_enter Tryz.func49, Tryz.ntmps49
  go_wp2_with fail
  refine (IN.out _).mono ?_
  rintro e w' ⟨rfl, rfl⟩
  go_wp2_with fail
  go_ret
  exact ⟨rfl, BB.out⟩

set_option maxRecDepth 20000 in
set_option maxHeartbeats 2000000 in
theorem may15_at (l : List Int) (s : Value) (hl : l.length = 17) (w : World) : Calls Tryz.prog 49 #[PV l s, .int .i64 16] w fun e w' => e = .returned (.bool (fld l 15)) ∧ Below w.heap.size w w' := by
  show Calls _ _ #[.agg (polL l s).toArray, _] _ _
  have NB := Blk.new 24 (polL l s) w
  have c0 := NB.cell 15 _ (polL_at hl 15 (by omega))
  have c1 := NB.cell 14 _ (polL_at hl 14 (by omega))
  have BB : Hid (Below w.heap.size w (w.alloc (.cells (polL l s).toArray 24))) := below_alloc _ _
  have FD : Hid (fld l 15 = decide (l.getD 14 0 ≤ l.getD 15 0 ∧ l.getD 15 0 ≤ 64)) := rfl
  have IN : Hid (∀ w : World, Calls Tryz.prog 90 #[.int .i64 (l.getD 15 0), .int .i64 (l.getD 14 0), .int .i64 64] w fun e w' => e = .returned (.bool (fld l 15)) ∧ w' = w) := fun w => by rw [FD.out]; exact in_at _ _ _ w
  clear NB hl FD
  generalize fld l 15 = B at *
  generalize l.getD 15 0 = x at *
  generalize l.getD 14 0 = y at *
  generalize polL l s = cs at *
  go_enter Tryz.func49, Tryz.ntmps49
  go_wp2_with fail
  refine (IN.out _).mono ?_
  rintro e w' ⟨rfl, rfl⟩
  go_wp2_with fail
  go_ret
  exact ⟨rfl, BB.out⟩

set_option maxRecDepth 20000 in
set_option maxHeartbeats 2000000 in
theorem may16_at (l : List Int) (s : Value) (hl : l.length = 17) (w : World) : Calls Tryz.prog 49 #[PV l s, .int .i64 17] w fun e w' => e = .returned (.bool (fld l 16)) ∧ Below w.heap.size w w' := by
  show Calls _ _ #[.agg (polL l s).toArray, _] _ _
  have NB := Blk.new 24 (polL l s) w
  have c0 := NB.cell 16 _ (polL_at hl 16 (by omega))
  have BB : Hid (Below w.heap.size w (w.alloc (.cells (polL l s).toArray 24))) := below_alloc _ _
  have FD : Hid (fld l 16 = decide (0 ≤ l.getD 16 0 ∧ l.getD 16 0 ≤ 1000)) := rfl
  have IN : Hid (∀ w : World, Calls Tryz.prog 90 #[.int .i64 (l.getD 16 0), .int .i64 (0), .int .i64 1000] w fun e w' => e = .returned (.bool (fld l 16)) ∧ w' = w) := fun w => by rw [FD.out]; exact in_at _ _ _ w
  clear NB hl FD
  generalize fld l 16 = B at *
  generalize l.getD 16 0 = x at *
  generalize polL l s = cs at *
  go_enter Tryz.func49, Tryz.ntmps49
  go_wp2_with fail
  refine (IN.out _).mono ?_
  rintro e w' ⟨rfl, rfl⟩
  go_wp2_with fail
  go_ret
  exact ⟨rfl, BB.out⟩

set_option maxRecDepth 20000 in
set_option maxHeartbeats 2000000 in
theorem may17_at (l hs : List Int) (s : Value) (hl : l.length = 17) (w : World) (hr : Rd w s (bkL hs)) (hb : hs.length ≤ 1152921504606846976) : Calls Tryz.prog 49 #[PV l s, .int .i64 18] w fun e w' => e = .returned (.bool (hol hs)) ∧ Below w.heap.size w w' := by
  show Calls _ _ #[.agg (polL l s).toArray, _] _ _
  have NB := Blk.new 24 (polL l s) w
  have c0 := NB.cell 17 _ (polL_hol hl)
  have BB : Hid (Below w.heap.size w (w.alloc (.cells (polL l s).toArray 24))) := below_alloc _ _
  have HO : Hid (Calls Tryz.prog 91 #[s] (w.alloc (.cells (polL l s).toArray 24)) fun e w' => e = .returned (.bool (hol hs)) ∧ Below (w.alloc (.cells (polL l s).toArray 24)).heap.size (w.alloc (.cells (polL l s).toArray 24)) w') := rhol_at hs s _ (hr.later BB.out) hb
  obtain ⟨ao, cp, rfl, -, -, -⟩ := hr
  clear NB hl
  generalize hol hs = B at *
  generalize polL l _ = cs at *
  go_enter Tryz.func49, Tryz.ntmps49
  go_wp2_with fail
  refine HO.out.mono ?_
  rintro e w' ⟨rfl, b1⟩
  have B1 : Hid (Below w.heap.size w w') := below_trans BB.out b1
  clear b1
  go_wp2_with fail
  go_ret
  exact ⟨rfl, B1.out⟩

theorem rmay_at (l hs : List Int) (s : Value) (hl : l.length = 17) (w : World) (hr : Rd w s (bkL hs)) (hb : hs.length ≤ 1152921504606846976) (k : Nat) (hk : k < 18) : Calls Tryz.prog 49 #[PV l s, .int .i64 ((k : Int) + 1)] w fun e w' => e = .returned (.bool (may l hs k)) ∧ Below w.heap.size w w' := by
  match k, hk with
  | 0, _ => exact may0_at l s hl w
  | 1, _ => exact may1_at l s hl w
  | 2, _ => exact may2_at l s hl w
  | 3, _ => exact may3_at l s hl w
  | 4, _ => exact may4_at l s hl w
  | 5, _ => exact may5_at l s hl w
  | 6, _ => exact may6_at l s hl w
  | 7, _ => exact may7_at l s hl w
  | 8, _ => exact may8_at l s hl w
  | 9, _ => exact may9_at l s hl w
  | 10, _ => exact may10_at l s hl w
  | 11, _ => exact may11_at l s hl w
  | 12, _ => exact may12_at l s hl w
  | 13, _ => exact may13_at l s hl w
  | 14, _ => exact may14_at l s hl w
  | 15, _ => exact may15_at l s hl w
  | 16, _ => exact may16_at l s hl w
  | 17, _ => exact may17_at l hs s hl w hr hb
  | k + 18, h => omega

set_option maxRecDepth 20000 in
set_option maxHeartbeats 2000000 in
theorem rcheck_at (l hs : List Int) (s : Value) (w : World) (hl : l.length = 17) (hr : Rd w s (bkL hs)) (hb : hs.length ≤ 1152921504606846976) :
    Calls Tryz.prog 33 #[PV l s] w fun e w' => e = .returned (.tuple #[.int .i64 (ev (chk l hs)), .int .i64 (chk l hs : Int)]) ∧ Below w.heap.size w w' := by
  have MA : Hid (∀ w', Below w.heap.size w w' → ∀ k : Nat, k < 18 → Calls Tryz.prog 49 #[PV l s, .int .i64 ((k : Int) + 1)] w' fun e w'' => e = .returned (.bool (may l hs k)) ∧ Below w'.heap.size w' w'') := fun w' hb' k hk => rmay_at l hs s hl w' (hr.later hb') hb k hk
  show Calls _ _ #[.agg (polL l s).toArray] _ _
  have BP : Hid (Blk w.heap.size 24 (polL l s) (w.alloc (.cells (polL l s).toArray 24))) := Blk.new _ _ _
  have BB : Hid (Below w.heap.size w (w.alloc (.cells (polL l s).toArray 24))) := below_alloc _ _
  have SZ : Hid ((Tryz.prog.info? 24).map (·.size) = some (polL l s).length) := by show _ = _; rw [polL_len hl]; exact sizeP
  have CN : Hid (∀ n, n < 18 → (∀ j, j < n → may l hs j = true) → may l hs n = false → chk l hs = n + 1) := fun n hn h h' => chk_stop hn h h'
  have CO : Hid ((∀ j, j < 18 → may l hs j = true) → chk l hs = 0) := chk_ok
  clear hr hl hb
  go_enter Tryz.func33, Tryz.ntmps33
  go_wp2_with fail
  go_loopw [4] (fun vk wr => ∃ k : Nat, vk = .int .i64 ((k : Int) + 1) ∧ k ≤ 18 ∧ Hid (∀ j, j < k → may l hs j = true) ∧ Hid (Below w.heap.size w wr ∧ Blk w.heap.size 24 (polL l s) wr)) (fun vk _ => 19 - (intOf vk).toNat)
  case atStart => exact ⟨0, rfl, by omega, fun j hj => by omega, BB.out, BP.out⟩
  case round =>
    obtain ⟨k, rfl, hk, FO, BR⟩ := hrel
    by_cases hlt : (k : Int) + 1 ≤ 18
    · have MK : Hid (Calls Tryz.prog 49 #[PV l s, .int .i64 ((k : Int) + 1)] wr fun e w'' => e = .returned (.bool (may l hs k)) ∧ Below wr.heap.size wr w'') := MA.out wr BR.out.1 k (by omega)
      have CK : Hid (may l hs k = false → chk l hs = k + 1) := CN.out k (by omega) FO.out
      have FO' : Hid (may l hs k = true → ∀ j, j < k + 1 → may l hs j = true) := fun h j hj => by
        by_cases e : j = k
        · subst e; exact h
        · exact FO.out j (by omega)
      have EV : Hid (ev (k + 1) = 120) := rfl
      clear MA CN CO FO
      generalize may l hs k = B at *
      go_wp2_with (refine step_load rfl 24 _ rfl w.heap.size 0 rfl (polL l s) _ (Blk.all BR.out.2) Tryz.underlying24 rfl SZ.out ?_)
      refine MK.out.mono ?_
      rintro e w1 ⟨rfl, b1⟩
      have B1 : Hid (Below w.heap.size w w1 ∧ Blk w.heap.size 24 (polL l s) w1) := ⟨below_trans BR.out.1 b1, BR.out.2.below b1⟩
      clear b1
      cases B
      · go_wp2_with fail
        go_ret2
        refine ⟨?_, B1.out.1⟩
        rw [CK.out (by trivial), EV.out]
        rfl
      · go_wp2_with fail
        go_roundw
        case rel => exact ⟨k + 1, by go_num, by omega, FO'.out (by trivial), B1.out⟩
        case measure => simp [intOf]; omega
    · obtain rfl : k = 18 := by omega
      have CC : Hid (chk l hs = 0) := CO.out FO.out
      go_wp2_with fail
      go_ret2
      refine ⟨?_, BR.out.1⟩
      rw [CC.out]
      rfl

end Go.Proofs.YtgdmkcbbomfmdaaGreatDoor