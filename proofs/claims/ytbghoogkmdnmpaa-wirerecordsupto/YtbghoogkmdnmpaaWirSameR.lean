/-
  Ours: the law's sameRecord, of two that are alike.
-/
import Derived.Test.YtbghoogkmdnmpaaWirREnR
namespace Go.Proofs.Ytbghoogkmdnmpaa
open Go.RowKit

set_option maxRecDepth 20000 in
set_option maxHeartbeats 1000000 in
theorem sameRecord_at (k : Int) (o : OpV) (xs : List Int) (va vb : Value) (w : World) (hl : xs.length ≤ 1000000000) (ha : RdI w va xs) (hb : RdI w vb xs) :
    Calls Try.prog 15 #[recV k o va, recV k o vb] w fun e w' => e = .returned (.bool true) ∧ Below w.heap.size w w' := by
  have SI : Hid (∀ w', Below w.heap.size w w' → Calls Try.prog 44 #[va, vb] w' fun e w'' => e = .returned (.bool true) ∧ ∃ n, w'' = w'.drewN n) := fun w' h => by
    have := sameIDs_at xs xs va vb w' (by omega) (Rd.later ha h) (Rd.later hb h)
    rw [decide_eq_true rfl] at this; exact this
  obtain ⟨f0, f1, f2, f3, f4, f5, f6⟩ := o
  unfold recV
  simp only
  have B2 := below_trans (below_alloc w (.cells #[.int .i64 k, .int .i64 f0, .int .i64 f1, .int .i64 f2, .int .i64 f3, .int .i64 f4, .int .i64 f5, .string f6, va] 26)) (below_alloc (w.alloc (.cells #[.int .i64 k, .int .i64 f0, .int .i64 f1, .int .i64 f2, .int .i64 f3, .int .i64 f4, .int .i64 f5, .string f6, va] 26)) (.cells #[.int .i64 k, .int .i64 f0, .int .i64 f1, .int .i64 f2, .int .i64 f3, .int .i64 f4, .int .i64 f5, .string f6, vb] 26))
  have e1 : (k == k) = true := by simp
  clear ha hb hl
  go_enter Try.func15, Try.ntmps15
  go_wp2_with fail
  refine (SI.out _ B2).mono ?_
  rintro e w3 ⟨rfl, n, rfl⟩
  have B3 := below_drewN B2 n
  go_wp2_with fail
  go_ret
  exact ⟨rfl, B3⟩
end Go.Proofs.Ytbghoogkmdnmpaa
