/-
  Ours: interest.valid.
-/
import Derived.Test.YtgdmkcbbomfmdaaGreatDoorIntPays
import Derived.Test.YtgdmkcbbomfmdaaGreatDoorCalMon3
import Derived.Test.YtgdmkcbbomfmdaaGreatDoorCalAdj
import Derived.Test.YtgdmkcbbomfmdaaGreatDoorCalAdj2
namespace Go.Proofs.YtgdmkcbbomfmdaaGreatDoor
open Go.RowKit IntM CalM

/-- Terms, as a value. -/
def termsV (kind P r n start rule : Int) : Value := .agg #[.int .i64 kind, .int .i64 P, .int .i64 r, .int .i64 n, .int .i64 start, .int .i64 rule]
def validB (kind P r n start rule : Int) : Bool := decide ((1 ≤ start ∧ start ≤ 3652059) ∧ (0 ≤ kind ∧ kind ≤ 2) ∧ (1 ≤ P ∧ P ≤ 10000000000000) ∧ (0 ≤ r ∧ r ≤ 100000) ∧ (1 ≤ n ∧ n ≤ 120) ∧ (0 ≤ rule ∧ rule ≤ 3))

theorem cell_in {w W : World} {cs : Array Value} {t : TypeId} (U : Up (w.alloc (.cells cs t)) W) (i : Nat) (v : Value) (h : cs[i]? = some v) : W.cell? ⟨w.heap.size, i, none⟩ = some v := U.cell (cell_new w cs t i _ v h rfl)

set_option maxHeartbeats 1000000 in
theorem valid_k0 (kind P r n start rule : Int) (hs : 1 ≤ start ∧ start ≤ 3652059) (k0 : ¬ 0 ≤ kind) (w : World) (hA : TabA w) :
    Calls Tryz.prog 80 #[termsV kind P r n start rule] w fun e w' => e = .returned (.bool false) ∧ Up w w' := by
  unfold termsV
  obtain ⟨y, m, k, hk, hd⟩ := civil_exists start hs.1 hs.2
  have CA : Hid (∀ w, TabA w → Calls Tryz.prog 103 #[.int .i64 start] w fun e w' => e = .returned (.tuple #[.agg #[.int .i64 y, .int .i64 m, .int .i64 k], .bool true]) ∧ ∃ o, w' = w.alloc o) := fun w hA => civil_at y m k start hk hd w hA
  have HA : Hid (TabA w) := hA
  clear hA hk hd hs
  go_enter Tryz.func80, Tryz.ntmps80
  go_wp2_with fail
  refine (CA.out _ (HA.out.al _)).mono ?_
  rintro e w1 ⟨rfl, o, hw⟩; rw [hw]; clear hw w1
  go_wp2_with fail
  go_ret
  exact ⟨rfl, ((Up.refl w).alloc _).alloc _ |>.alloc _⟩

set_option maxHeartbeats 1000000 in
theorem valid_k1 (kind P r n start rule : Int) (hs : 1 ≤ start ∧ start ≤ 3652059) (k0 : 0 ≤ kind) (k1 : ¬ kind ≤ 2) (w : World) (hA : TabA w) :
    Calls Tryz.prog 80 #[termsV kind P r n start rule] w fun e w' => e = .returned (.bool false) ∧ Up w w' := by
  unfold termsV
  obtain ⟨y, m, k, hk, hd⟩ := civil_exists start hs.1 hs.2
  have CA : Hid (∀ w, TabA w → Calls Tryz.prog 103 #[.int .i64 start] w fun e w' => e = .returned (.tuple #[.agg #[.int .i64 y, .int .i64 m, .int .i64 k], .bool true]) ∧ ∃ o, w' = w.alloc o) := fun w hA => civil_at y m k start hk hd w hA
  have HA : Hid (TabA w) := hA
  clear hA hk hd hs
  go_enter Tryz.func80, Tryz.ntmps80
  go_wp2_with fail
  refine (CA.out _ (HA.out.al _)).mono ?_
  rintro e w1 ⟨rfl, o, hw⟩; rw [hw]; clear hw w1
  go_wp2_with fail
  go_ret
  exact ⟨rfl, ((Up.refl w).alloc _).alloc _ |>.alloc _⟩

set_option maxHeartbeats 1000000 in
theorem valid_p0 (kind P r n start rule : Int) (hs : 1 ≤ start ∧ start ≤ 3652059) (k0 : 0 ≤ kind) (k1 : kind ≤ 2) (p0 : ¬ 1 ≤ P) (w : World) (hA : TabA w) :
    Calls Tryz.prog 80 #[termsV kind P r n start rule] w fun e w' => e = .returned (.bool false) ∧ Up w w' := by
  unfold termsV
  obtain ⟨y, m, k, hk, hd⟩ := civil_exists start hs.1 hs.2
  have CA : Hid (∀ w, TabA w → Calls Tryz.prog 103 #[.int .i64 start] w fun e w' => e = .returned (.tuple #[.agg #[.int .i64 y, .int .i64 m, .int .i64 k], .bool true]) ∧ ∃ o, w' = w.alloc o) := fun w hA => civil_at y m k start hk hd w hA
  have HA : Hid (TabA w) := hA
  clear hA hk hd hs
  go_enter Tryz.func80, Tryz.ntmps80
  go_wp2_with fail
  refine (CA.out _ (HA.out.al _)).mono ?_
  rintro e w1 ⟨rfl, o, hw⟩; rw [hw]; clear hw w1
  go_wp2_with fail
  go_ret
  exact ⟨rfl, ((Up.refl w).alloc _).alloc _ |>.alloc _⟩

set_option maxHeartbeats 1000000 in
theorem valid_p1 (kind P r n start rule : Int) (hs : 1 ≤ start ∧ start ≤ 3652059) (k0 : 0 ≤ kind) (k1 : kind ≤ 2) (p0 : 1 ≤ P) (p1 : ¬ P ≤ 10000000000000) (w : World) (hA : TabA w) :
    Calls Tryz.prog 80 #[termsV kind P r n start rule] w fun e w' => e = .returned (.bool false) ∧ Up w w' := by
  unfold termsV
  obtain ⟨y, m, k, hk, hd⟩ := civil_exists start hs.1 hs.2
  have CA : Hid (∀ w, TabA w → Calls Tryz.prog 103 #[.int .i64 start] w fun e w' => e = .returned (.tuple #[.agg #[.int .i64 y, .int .i64 m, .int .i64 k], .bool true]) ∧ ∃ o, w' = w.alloc o) := fun w hA => civil_at y m k start hk hd w hA
  have HA : Hid (TabA w) := hA
  clear hA hk hd hs
  go_enter Tryz.func80, Tryz.ntmps80
  go_wp2_with fail
  refine (CA.out _ (HA.out.al _)).mono ?_
  rintro e w1 ⟨rfl, o, hw⟩; rw [hw]; clear hw w1
  go_wp2_with fail
  go_ret
  exact ⟨rfl, ((Up.refl w).alloc _).alloc _ |>.alloc _⟩

set_option maxHeartbeats 1000000 in
theorem valid_R (kind P r n start rule : Int) (hs : 1 ≤ start ∧ start ≤ 3652059) (k0 : 0 ≤ kind) (k1 : kind ≤ 2) (p0 : 1 ≤ P) (p1 : P ≤ 10000000000000) (hR : rateB r = false) (w : World) (hA : TabA w) :
    Calls Tryz.prog 80 #[termsV kind P r n start rule] w fun e w' => e = .returned (.bool false) ∧ Up w w' := by
  unfold termsV
  obtain ⟨y, m, k, hk, hd⟩ := civil_exists start hs.1 hs.2
  have CA : Hid (∀ w, TabA w → Calls Tryz.prog 103 #[.int .i64 start] w fun e w' => e = .returned (.tuple #[.agg #[.int .i64 y, .int .i64 m, .int .i64 k], .bool true]) ∧ ∃ o, w' = w.alloc o) := fun w hA => civil_at y m k start hk hd w hA
  have HA : Hid (TabA w) := hA
  clear hA hk hd hs
  have IR : Hid (∀ w, Calls Tryz.prog 104 #[.int .i64 r] w fun e w' => e = .returned (.bool false) ∧ w' = w) := fun w => isRate_at r false hR w
  clear hR
  go_enter Tryz.func80, Tryz.ntmps80
  go_wp2_with fail
  refine (CA.out _ (HA.out.al _)).mono ?_
  rintro e w1 ⟨rfl, o, hw⟩; rw [hw]; clear hw w1
  go_wp2_with fail
  refine (IR.out _).mono ?_
  rintro e w1 ⟨rfl, hw⟩; rw [hw]; clear hw w1
  go_wp2_with fail
  go_ret
  exact ⟨rfl, ((Up.refl w).alloc _).alloc _ |>.alloc _⟩

set_option maxHeartbeats 1000000 in
theorem valid_C (kind P r n start rule : Int) (hs : 1 ≤ start ∧ start ≤ 3652059) (k0 : 0 ≤ kind) (k1 : kind ≤ 2) (p0 : 1 ≤ P) (p1 : P ≤ 10000000000000) (hR : rateB r = true) (hC : cntB n = false) (w : World) (hA : TabA w) :
    Calls Tryz.prog 80 #[termsV kind P r n start rule] w fun e w' => e = .returned (.bool false) ∧ Up w w' := by
  unfold termsV
  obtain ⟨y, m, k, hk, hd⟩ := civil_exists start hs.1 hs.2
  have CA : Hid (∀ w, TabA w → Calls Tryz.prog 103 #[.int .i64 start] w fun e w' => e = .returned (.tuple #[.agg #[.int .i64 y, .int .i64 m, .int .i64 k], .bool true]) ∧ ∃ o, w' = w.alloc o) := fun w hA => civil_at y m k start hk hd w hA
  have HA : Hid (TabA w) := hA
  clear hA hk hd hs
  have IR : Hid (∀ w, Calls Tryz.prog 104 #[.int .i64 r] w fun e w' => e = .returned (.bool true) ∧ w' = w) := fun w => isRate_at r true hR w
  clear hR
  have IC : Hid (∀ w, Calls Tryz.prog 105 #[.int .i64 n] w fun e w' => e = .returned (.bool false) ∧ w' = w) := fun w => isCount_at n false hC w
  clear hC
  go_enter Tryz.func80, Tryz.ntmps80
  go_wp2_with fail
  refine (CA.out _ (HA.out.al _)).mono ?_
  rintro e w1 ⟨rfl, o, hw⟩; rw [hw]; clear hw w1
  go_wp2_with fail
  refine (IR.out _).mono ?_
  rintro e w1 ⟨rfl, hw⟩; rw [hw]; clear hw w1
  go_wp2_with fail
  refine (IC.out _).mono ?_
  rintro e w1 ⟨rfl, hw⟩; rw [hw]; clear hw w1
  go_wp2_with fail
  go_ret
  exact ⟨rfl, ((Up.refl w).alloc _).alloc _ |>.alloc _⟩

set_option maxHeartbeats 1000000 in
theorem valid_u0 (kind P r n start rule : Int) (hs : 1 ≤ start ∧ start ≤ 3652059) (k0 : 0 ≤ kind) (k1 : kind ≤ 2) (p0 : 1 ≤ P) (p1 : P ≤ 10000000000000) (hR : rateB r = true) (hC : cntB n = true) (u0 : ¬ 0 ≤ rule) (w : World) (hA : TabA w) :
    Calls Tryz.prog 80 #[termsV kind P r n start rule] w fun e w' => e = .returned (.bool false) ∧ Up w w' := by
  unfold termsV
  obtain ⟨y, m, k, hk, hd⟩ := civil_exists start hs.1 hs.2
  have CA : Hid (∀ w, TabA w → Calls Tryz.prog 103 #[.int .i64 start] w fun e w' => e = .returned (.tuple #[.agg #[.int .i64 y, .int .i64 m, .int .i64 k], .bool true]) ∧ ∃ o, w' = w.alloc o) := fun w hA => civil_at y m k start hk hd w hA
  have HA : Hid (TabA w) := hA
  clear hA hk hd hs
  have IR : Hid (∀ w, Calls Tryz.prog 104 #[.int .i64 r] w fun e w' => e = .returned (.bool true) ∧ w' = w) := fun w => isRate_at r true hR w
  clear hR
  have IC : Hid (∀ w, Calls Tryz.prog 105 #[.int .i64 n] w fun e w' => e = .returned (.bool true) ∧ w' = w) := fun w => isCount_at n true hC w
  clear hC
  go_enter Tryz.func80, Tryz.ntmps80
  go_wp2_with fail
  refine (CA.out _ (HA.out.al _)).mono ?_
  rintro e w1 ⟨rfl, o, hw⟩; rw [hw]; clear hw w1
  go_wp2_with fail
  refine (IR.out _).mono ?_
  rintro e w1 ⟨rfl, hw⟩; rw [hw]; clear hw w1
  go_wp2_with fail
  refine (IC.out _).mono ?_
  rintro e w1 ⟨rfl, hw⟩; rw [hw]; clear hw w1
  go_wp2_with fail
  go_ret
  exact ⟨rfl, ((Up.refl w).alloc _).alloc _ |>.alloc _⟩

set_option maxHeartbeats 1000000 in
theorem valid_u1 (kind P r n start rule : Int) (hs : 1 ≤ start ∧ start ≤ 3652059) (k0 : 0 ≤ kind) (k1 : kind ≤ 2) (p0 : 1 ≤ P) (p1 : P ≤ 10000000000000) (hR : rateB r = true) (hC : cntB n = true) (u0 : 0 ≤ rule) (u1 : ¬ rule ≤ 3) (w : World) (hA : TabA w) :
    Calls Tryz.prog 80 #[termsV kind P r n start rule] w fun e w' => e = .returned (.bool false) ∧ Up w w' := by
  unfold termsV
  obtain ⟨y, m, k, hk, hd⟩ := civil_exists start hs.1 hs.2
  have CA : Hid (∀ w, TabA w → Calls Tryz.prog 103 #[.int .i64 start] w fun e w' => e = .returned (.tuple #[.agg #[.int .i64 y, .int .i64 m, .int .i64 k], .bool true]) ∧ ∃ o, w' = w.alloc o) := fun w hA => civil_at y m k start hk hd w hA
  have HA : Hid (TabA w) := hA
  clear hA hk hd hs
  have IR : Hid (∀ w, Calls Tryz.prog 104 #[.int .i64 r] w fun e w' => e = .returned (.bool true) ∧ w' = w) := fun w => isRate_at r true hR w
  clear hR
  have IC : Hid (∀ w, Calls Tryz.prog 105 #[.int .i64 n] w fun e w' => e = .returned (.bool true) ∧ w' = w) := fun w => isCount_at n true hC w
  clear hC
  go_enter Tryz.func80, Tryz.ntmps80
  go_wp2_with fail
  refine (CA.out _ (HA.out.al _)).mono ?_
  rintro e w1 ⟨rfl, o, hw⟩; rw [hw]; clear hw w1
  go_wp2_with fail
  refine (IR.out _).mono ?_
  rintro e w1 ⟨rfl, hw⟩; rw [hw]; clear hw w1
  go_wp2_with fail
  refine (IC.out _).mono ?_
  rintro e w1 ⟨rfl, hw⟩; rw [hw]; clear hw w1
  go_wp2_with fail
  go_ret
  exact ⟨ret_bool (decide_eq_false (by omega)), ((Up.refl w).alloc _).alloc _ |>.alloc _⟩

set_option maxHeartbeats 1000000 in
theorem valid_yes (kind P r n start rule : Int) (hs : 1 ≤ start ∧ start ≤ 3652059) (k0 : 0 ≤ kind) (k1 : kind ≤ 2) (p0 : 1 ≤ P) (p1 : P ≤ 10000000000000) (hR : rateB r = true) (hC : cntB n = true) (u0 : 0 ≤ rule) (u1 : rule ≤ 3) (w : World) (hA : TabA w) :
    Calls Tryz.prog 80 #[termsV kind P r n start rule] w fun e w' => e = .returned (.bool true) ∧ Up w w' := by
  unfold termsV
  obtain ⟨y, m, k, hk, hd⟩ := civil_exists start hs.1 hs.2
  have CA : Hid (∀ w, TabA w → Calls Tryz.prog 103 #[.int .i64 start] w fun e w' => e = .returned (.tuple #[.agg #[.int .i64 y, .int .i64 m, .int .i64 k], .bool true]) ∧ ∃ o, w' = w.alloc o) := fun w hA => civil_at y m k start hk hd w hA
  have HA : Hid (TabA w) := hA
  clear hA hk hd hs
  have IR : Hid (∀ w, Calls Tryz.prog 104 #[.int .i64 r] w fun e w' => e = .returned (.bool true) ∧ w' = w) := fun w => isRate_at r true hR w
  clear hR
  have IC : Hid (∀ w, Calls Tryz.prog 105 #[.int .i64 n] w fun e w' => e = .returned (.bool true) ∧ w' = w) := fun w => isCount_at n true hC w
  clear hC
  go_enter Tryz.func80, Tryz.ntmps80
  go_wp2_with fail
  refine (CA.out _ (HA.out.al _)).mono ?_
  rintro e w1 ⟨rfl, o, hw⟩; rw [hw]; clear hw w1
  go_wp2_with fail
  refine (IR.out _).mono ?_
  rintro e w1 ⟨rfl, hw⟩; rw [hw]; clear hw w1
  go_wp2_with fail
  refine (IC.out _).mono ?_
  rintro e w1 ⟨rfl, hw⟩; rw [hw]; clear hw w1
  go_wp2_with fail
  go_ret
  exact ⟨rfl, ((Up.refl w).alloc _).alloc _ |>.alloc _⟩

theorem valid_day (kind P r n start rule : Int) (hs : ¬ (1 ≤ start ∧ start ≤ 3652059)) (w : World) :
    Calls Tryz.prog 80 #[termsV kind P r n start rule] w fun e w' => e = .returned (.bool false) ∧ Up w w' := by
  unfold termsV
  have CA : Hid (∀ w, Calls Tryz.prog 103 #[.int .i64 start] w fun e w' => e = .returned (.tuple #[.agg #[.int .i64 0, .int .i64 0, .int .i64 0], .bool false]) ∧ ∃ o, w' = w.alloc o) := fun w => civil_no start hs w
  clear hs
  go_enter Tryz.func80, Tryz.ntmps80
  go_wp2_with fail
  refine (CA.out _).mono ?_
  rintro e w1 ⟨rfl, o, hw⟩; rw [hw]; clear hw w1
  go_wp2_with fail
  go_ret
  exact ⟨rfl, ((Up.refl w).alloc _).alloc _ |>.alloc _⟩

theorem valid_at (kind P r n start rule : Int) (w : World) (hA : TabA w) :
    Calls Tryz.prog 80 #[termsV kind P r n start rule] w fun e w' => e = .returned (.bool (validB kind P r n start rule)) ∧ Up w w' := by
  have no : ¬ ((1 ≤ start ∧ start ≤ 3652059) ∧ (0 ≤ kind ∧ kind ≤ 2) ∧ (1 ≤ P ∧ P ≤ 10000000000000) ∧ (0 ≤ r ∧ r ≤ 100000) ∧ (1 ≤ n ∧ n ≤ 120) ∧ (0 ≤ rule ∧ rule ≤ 3)) → validB kind P r n start rule = false := fun h => decide_eq_false h
  by_cases hs : 1 ≤ start ∧ start ≤ 3652059
  · by_cases k0 : 0 ≤ kind
    · by_cases k1 : kind ≤ 2
      · by_cases p0 : 1 ≤ P
        · by_cases p1 : P ≤ 10000000000000
          · cases hR : rateB r with
            | false => rw [no (by have := of_decide_eq_false hR; omega)]; exact valid_R kind P r n start rule hs k0 k1 p0 p1 hR w hA
            | true =>
              cases hC : cntB n with
              | false => rw [no (by have := of_decide_eq_false hC; omega)]; exact valid_C kind P r n start rule hs k0 k1 p0 p1 hR hC w hA
              | true =>
                by_cases u0 : 0 ≤ rule
                · by_cases u1 : rule ≤ 3
                  · have : validB kind P r n start rule = true := decide_eq_true (by have := of_decide_eq_true hR; have := of_decide_eq_true hC; omega)
                    rw [this]; exact valid_yes kind P r n start rule hs k0 k1 p0 p1 hR hC u0 u1 w hA
                  · rw [no (by omega)]; exact valid_u1 kind P r n start rule hs k0 k1 p0 p1 hR hC u0 u1 w hA
                · rw [no (by omega)]; exact valid_u0 kind P r n start rule hs k0 k1 p0 p1 hR hC u0 w hA
          · rw [no (by omega)]; exact valid_p1 kind P r n start rule hs k0 k1 p0 p1 w hA
        · rw [no (by omega)]; exact valid_p0 kind P r n start rule hs k0 k1 p0 w hA
      · rw [no (by omega)]; exact valid_k1 kind P r n start rule hs k0 k1 w hA
    · rw [no (by omega)]; exact valid_k0 kind P r n start rule hs k0 w hA
  · rw [no (fun h => hs h.1)]; exact valid_day kind P r n start rule hs w

end Go.Proofs.YtgdmkcbbomfmdaaGreatDoor
