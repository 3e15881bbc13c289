/-
  Ours: what is owed and what was paid of a kind.
-/
import Derived.Test.YtplebplpachgiaaDoorWatTwM
import Derived.Deep.QuietTactic
import Derived.BigQuiet
namespace Go.Proofs.YtplebplpachgiaaDoor
open Go.RowKit LedM WatM

namespace WatM
/-- A part by its kind. -/
def ptK (x y z : Int) (k : Nat) : Int := if k = 3 then x else if k = 2 then y else z
theorem ptK_al {n j : Nat} {f i p a x y z u : Int} (hn : n < 6) (hj : j < 3) (e : alG n f i p a = [x, y, z, u, 0]) : ptK x y z (kd n j) = pd n f i p a j := by
  have a : n = 0 ∨ n = 1 ∨ n = 2 ∨ n = 3 ∨ n = 4 ∨ n = 5 := by omega
  have b : j = 0 ∨ j = 1 ∨ j = 2 := by omega
  unfold alG at e
  injection e with e0 e; injection e with e1 e; injection e with e2 _
  subst e0 e1 e2
  rcases a with h | h | h | h | h | h <;> subst h <;> rcases b with h | h | h <;> subst h <;> rfl
theorem ptK_db {n j : Nat} {f i p : Int} (hn : n < 6) (hj : j < 3) : ptK f i p (kd n j) = dbA n f i p j := by
  unfold dbA ptK
  rcases kd_all n hn j hj with e | e | e <;> rw [e] <;> rfl
/-- Are all kinds so far paid in full? -/
def ful (n : Nat) (f i p a : Int) : Nat → Bool
  | 0 => true
  | j + 1 => ful n f i p a j && (pd n f i p a j == dbA n f i p j)
theorem ful_left {n : Nat} {f i p a : Int} (hn : n < 6) (hf : 0 ≤ f) (hi : 0 ≤ i) (hp : 0 ≤ p) (bf : f ≤ 9223372036854775807) (bi : i ≤ 9223372036854775807) (bp : p ≤ 9223372036854775807) : ∀ j, j ≤ 3 → ful n f i p a j = false → lf n f i p a j = 0
  | 0, _, h => by cases h
  | j + 1, hj, h => by
    have d := dbA_ok (j := j) hn (by omega) hf hi hp bf bi bp
    have ih := ful_left (a := a) hn hf hi hp bf bi bp j (by omega)
    rw [lf_succ]
    have pm := pd_min n f i p a j
    unfold ful at h
    cases hq : ful n f i p a j with
    | false => have := ih hq; omega
    | true =>
      rw [hq] at h
      have h' : ¬pd n f i p a j = dbA n f i p j := by simpa using h
      omega
end WatM

set_option maxRecDepth 20000 in
set_option maxHeartbeats 1600000 in
theorem of_at (k : Nat) (f i p x y z u r : Int) (w : World) (hk : k = 1 ∨ k = 2 ∨ k = 3) : Calls Tryd.prog 9 #[.int .i64 (k : Int), .agg (bkL [f, i, p]).toArray, .agg (bkL [x, y, z, u, r]).toArray] w fun e w' => e = .returned (.tuple #[.int .i64 (ptK f i p k), .int .i64 (ptK x y z k)]) ∧ Below w.heap.size w w' := by
  show Calls Tryd.prog 9 #[.int .i64 (k : Int), .agg #[.int .i64 f, .int .i64 i, .int .i64 p], .agg #[.int .i64 x, .int .i64 y, .int .i64 z, .int .i64 u, .int .i64 r]] w fun e w' => e = .returned (.tuple #[.int .i64 (ptK f i p k), .int .i64 (ptK x y z k)]) ∧ Below w.heap.size w w'
  have BE : Hid (∀ o o' : Obj, Below w.heap.size w ((w.alloc o).alloc o')) := fun o o' => (below_alloc w o).alloc (by simp) o'
  rcases hk with rfl | rfl | rfl
  all_goals
    go_enter Tryd.func9, Tryd.ntmps9
    go_wp2_with fail
    go_quiet (fail)
    go_wp2_with fail
    go_ret2
    exact ⟨rfl, below_drewN (BE.out _ _) nq⟩
end Go.Proofs.YtplebplpachgiaaDoor
