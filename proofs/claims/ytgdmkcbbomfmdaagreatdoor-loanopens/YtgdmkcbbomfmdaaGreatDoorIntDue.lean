/-
  Ours: interest.dueDay.
-/
import Derived.Test.YtgdmkcbbomfmdaaGreatDoorIntValid
namespace Go.Proofs.YtgdmkcbbomfmdaaGreatDoor
open Go.RowKit IntM CalM

/-- The due day of a month: q is the month counted from the start's, a the start's day of the month. -/
noncomputable def dueO (q a : Int) (xs : List Int) (rule : Int) : Option Int := if stepB q then adjO (stepN q a) xs rule else none

set_option maxHeartbeats 2000000 in
theorem dueDay_at (kind P r n start rule : Int) (y m k : Int) (hk : Ok y m k) (hd : dA y m + k = start) (mth q : Int) (hq : (y - 1) * 12 + m - 1 + mth = q) (a : Option Addr) (cap : Nat) (xs : List Int) (o : Option Int) (ho : dueO q k xs rule = o) (w : World) (hA : TabA w) (hL : TabL w) (hS : SlOk w a xs) :
    Calls Tryz.prog 83 #[termsV kind P r n start rule, .int .i64 mth, .slice a xs.length cap] w fun e w' => e = .returned (.tuple #[.int .i64 (optN o), .bool o.isSome]) ∧ Up w w' := by
  unfold termsV
  have k1 : 1 ≤ k ∧ k ≤ 31 := by
    have := len_high y m
    obtain ⟨_, _, _, _, h1, h2⟩ := hk
    omega
  have CA : Hid (∀ w, TabA w → Calls Tryz.prog 103 #[.int .i64 start] w fun e w' => e = .returned (.tuple #[.agg #[.int .i64 y, .int .i64 m, .int .i64 k], .bool true]) ∧ ∃ o, w' = w.alloc o) := fun w hA => civil_at y m k start hk hd w hA
  have AM : Hid (∀ w, TabA w → TabL w → Calls Tryz.prog 111 #[.int .i64 start, .int .i64 mth, .int .i64 k] w fun e w' => e = .returned (.tuple #[.int .i64 (stepN q k), .bool (stepB q)]) ∧ Up w w') := fun w hA hL => addMonths_up y m k start mth k q hk hd k1.1 k1.2 hq w hA hL
  have HA : Hid (TabA w) := hA
  have HL : Hid (TabL w) := hL
  have HS : Hid (SlOk w a xs) := hS
  unfold dueO at ho
  cases hb : stepB q with
  | true =>
    rw [hb, if_pos rfl] at ho
    rw [hb] at AM
    have AJ : Hid (∀ w, TabA w → SlOk w a xs → Calls Tryz.prog 112 #[.int .i64 (stepN q k), .slice a xs.length cap, .int .i64 rule] w fun e w' => e = .returned (.tuple #[.int .i64 (optN o), .bool o.isSome]) ∧ Up w w') := fun w hA h => adjust_at a cap xs (stepN q k) rule o ho w hA h
    clear hA hL hS hk hd ho hb
    generalize stepN q k = dd at *
    generalize optN o = ov at *
    generalize o.isSome = ob at *
    go_enter Tryz.func83, Tryz.ntmps83
    go_wp2_with fail
    refine (CA.out _ (HA.out.al _)).mono ?_
    rintro e w1 ⟨rfl, o1, hw⟩; rw [hw]; clear hw w1
    go_wp2_with fail
    have U0 : Up (w.alloc (.cells #[.int .i64 kind, .int .i64 P, .int .i64 r, .int .i64 n, .int .i64 start, .int .i64 rule] 26)) (((w.alloc (.cells #[.int .i64 kind, .int .i64 P, .int .i64 r, .int .i64 n, .int .i64 start, .int .i64 rule] 26)).alloc o1).alloc (.cells #[.int .i64 y, .int .i64 m, .int .i64 k] 108)) := ((Up.refl _).alloc _).alloc _
    have U00 := (Up.refl w).alloc (.cells #[.int .i64 kind, .int .i64 P, .int .i64 r, .int .i64 n, .int .i64 start, .int .i64 rule] 26)
    refine (AM.out _ (HA.out.up (U00.trans U0)) (HL.out.up (U00.trans U0))).mono ?_
    rintro e w1 ⟨rfl, U1⟩
    have c5 : w1.cell? ⟨w.heap.size, 5, none⟩ = some (.int .i64 rule) := cell_in (U0.trans U1) 5 _ rfl
    have U2 := U00.trans (U0.trans U1)
    clear U0 U1 U00
    go_wp2_with fail
    refine (AJ.out _ (HA.out.up U2) (HS.out.up U2)).mono ?_
    rintro e w2 ⟨rfl, U3⟩
    go_wp2_with fail
    go_ret2
    exact ⟨rfl, U2.trans U3⟩
  | false =>
    rw [hb, if_neg (by decide)] at ho
    rw [hb] at AM
    subst ho
    clear hA hL hS hk hd hb
    generalize stepN q k = dd at *
    go_enter Tryz.func83, Tryz.ntmps83
    go_wp2_with fail
    refine (CA.out _ (HA.out.al _)).mono ?_
    rintro e w1 ⟨rfl, o1, hw⟩; rw [hw]; clear hw w1
    go_wp2_with fail
    have U0 : Up w (((w.alloc (.cells #[.int .i64 kind, .int .i64 P, .int .i64 r, .int .i64 n, .int .i64 start, .int .i64 rule] 26)).alloc o1).alloc (.cells #[.int .i64 y, .int .i64 m, .int .i64 k] 108)) := ((Up.refl _).alloc _).alloc _ |>.alloc _
    refine (AM.out _ (HA.out.up U0) (HL.out.up U0)).mono ?_
    rintro e w1 ⟨rfl, U1⟩
    have U2 := U0.trans U1
    clear U0 U1
    go_wp2_with fail
    go_ret2
    exact ⟨rfl, U2⟩
end Go.Proofs.YtgdmkcbbomfmdaaGreatDoor
