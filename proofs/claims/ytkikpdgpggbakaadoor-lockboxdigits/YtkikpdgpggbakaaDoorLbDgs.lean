/-
  Ours: LockboxDigits, walked.
-/
import Derived.Test.YtkikpdgpggbakaaDoorLbRef
namespace Go.Proofs.YtkikpdgpggbakaaDoor
open Go.RowKit LbM
set_option maxRecDepth 40000 in
set_option maxHeartbeats 4000000 in
theorem digits_any (n : Int) (T : List UInt8) (_hn : -9223372036854775808 ≤ n ∧ n ≤ 9223372036854775807) (hl : T.length ≤ 140737488355328) (w : World) (ht : TabP w) :
    Calls Tryd.prog 4 #[.int .i64 n, .string ⟨T.toArray⟩] w fun e w' => e = .returned (.bool true) ∧ Below w.heap.size w w' := by
  have CN : Hid (∃ (d : Int) (b : Bool), (Calls Tryd.prog 5 #[.int .i64 n] w fun e w' => e = .returned (.tuple #[.int .i64 d, .bool b]) ∧ Below w.heap.size w w') ∧ ∀ w, Calls Tryd.prog 9 #[.int .i64 n] w fun e w' => e = .returned (.tuple #[.int .i64 d, .bool b]) ∧ Below w.heap.size w w') := by
    by_cases h : 0 ≤ n ∧ n ≤ 999999
    · obtain ⟨N, rfl⟩ : ∃ N : Nat, n = (N : Int) := ⟨n.toNat, by omega⟩
      exact ⟨_, true, checkNum_at N (by omega) w ht, fun w => rcheck_at N (by omega) w⟩
    · exact ⟨0, false, (checkNum_no n h w).mono fun e w' ⟨he, hw⟩ => ⟨he, by rw [← hw]; exact Below.refl _ _⟩, fun w => (rcheck_no n h w).mono fun e w' ⟨he, hw⟩ => ⟨he, by rw [← hw]; exact Below.refl _ _⟩⟩
  have VA : Hid (∀ w, Calls Tryd.prog 6 #[.string ⟨T.toArray⟩] w fun e w' => e = .returned (.bool (vld T)) ∧ w = w') := fun w => valid_at T w hl
  have RV : Hid (∀ w, Calls Tryd.prog 10 #[.string ⟨T.toArray⟩] w fun e w' => e = .returned (.bool (vld T)) ∧ Below w.heap.size w w') := fun w => rvalid_at T w hl
  have V75 : Hid (∀ w, Calls Tryd.prog 6 #[.string ⟨#[55, 53]⟩] w fun e w' => e = .returned (.bool true) ∧ w = w') := fun w => by
    have := valid_at [55, 53] w (by decide)
    rw [show vld [55, 53] = true by decide] at this
    exact this
  obtain ⟨d, b, C1, C2⟩ := CN.out
  have HC1 : Hid (Calls Tryd.prog 5 #[.int .i64 n] w fun e w' => e = .returned (.tuple #[.int .i64 d, .bool b]) ∧ Below w.heap.size w w') := C1
  have HC2 : Hid (∀ w, Calls Tryd.prog 9 #[.int .i64 n] w fun e w' => e = .returned (.tuple #[.int .i64 d, .bool b]) ∧ Below w.heap.size w w') := C2
  clear C1 C2 CN ht hl
  generalize vld T = v at *
  have e1 : (d == d) = true := by simp
  have e2 : (b == b) = true := by simp
  have e3 : (v == v) = true := by simp
  go_enter Tryd.func4, Tryd.ntmps4
  go_wp2_with fail
  refine HC1.out.mono ?_
  rintro e w2 ⟨rfl, b2⟩
  have B2 : Hid (Below w.heap.size w w2) := b2
  clear b2 HC1
  go_wp2_with fail
  refine (HC2.out w2).mono ?_
  rintro e w3 ⟨rfl, b3⟩
  have B3 : Hid (Below w.heap.size w w3) := below_trans B2.out b3
  clear b3 HC2 B2
  go_wp2_with fail
  refine (VA.out w3).mono ?_
  rintro e w4 ⟨rfl, rfl⟩
  go_wp2_with fail
  refine (RV.out w3).mono ?_
  rintro e w5 ⟨rfl, b5⟩
  have B5 : Hid (Below w.heap.size w w5) := below_trans B3.out b5
  clear b5 B3 VA RV
  go_wp2_with fail
  refine (V75.out w5).mono ?_
  rintro e w6 ⟨rfl, rfl⟩
  go_wp2_with fail
  go_ret
  exact ⟨rfl, B5.out⟩
end Go.Proofs.YtkikpdgpggbakaaDoor
