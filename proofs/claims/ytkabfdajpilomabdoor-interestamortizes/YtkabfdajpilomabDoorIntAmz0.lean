/-
  Ours: what the walk of InterestAmortizes needs.
-/
import Derived.Test.YtkabfdajpilomabDoorIntShare
import Derived.Test.YtkabfdajpilomabDoorIntPlans
import Derived.Deep.RegionHeld
namespace Go.Proofs.YtkabfdajpilomabDoor
open Go.RowKit IntM CalM

theorem share_at (kind P r start rule pay : Int) (n : Nat) (due : Nat → Option Int) (rs : List R3) (bal : Nat → Int) (tn : Nat → Nat) (am : Am kind P r n pay due rs bal tn) (hk : kind = 0 ∨ kind = 1 ∨ kind = 2) (P1 : P ≤ 10000000000000) (r0 : 0 ≤ r) (r1 : r ≤ 100000) (n1 : n ≤ 120)
    (a : Option Addr) (cap L : Nat) (hL : rs.length = L) (j : Nat) (hj : j < L) (w : World) (hI : InstOk w a rs) :
    Calls Tryd.prog 14 #[termsV kind P r n start rule, .slice a L cap, .int .i64 (j : Int), .int .i64 pay] w fun e w' => e = .returned (.bool true) ∧ Up w w' := by
  have l1 := am.len1
  obtain ⟨b0, b1, hi, p0, p1, _⟩ := am.row j (by omega)
  have m0 := mon_nonneg (Int.le_of_lt b0) r0
  have m1 := mon_le (Int.le_of_lt b0) r1
  rcases hk with rfl | rfl | rfl
  · obtain ⟨q1, q2, q3⟩ := am.k0 rfl j (by omega)
    exact share0 P r n start rule pay a cap L rs hL (by omega) j hj w hI q1 (by omega) (by omega) (by omega) (by rw [← hL]; exact q2) (by rw [← hL]; exact q3)
  · obtain ⟨q1, q2, q3, q4⟩ := am.k1 rfl j (by omega)
    obtain ⟨b0', b1', _, p0', p1', _⟩ := am.row 0 (by omega)
    exact share1 P r n start rule pay a cap L rs hL (by omega) j hj w hI q1 q2 q3 q4 (by omega)
  · exact share2 P r n start rule pay a cap L rs hL (by omega) j hj w hI (by rw [← hL]; exact am.k2 rfl j (by omega))

/-- The due day ahead of row j. -/
def befF (start : Int) (rs : List R3) : Nat → Int
  | 0 => start
  | j + 1 => (rs.getD j (0, 0, 0)).1

/-- What a round needs of row j. -/
theorem row_facts {kind P r start rule pay : Int} {n : Nat} {xs rs} {bal : Nat → Int} {tn : Nat → Nat} (am : Am kind P r n pay (dueT start rule xs) rs bal tn) (n1 : n ≤ 120) (hx : xs.length ≤ 4) (u0 : 0 ≤ rule) (u1 : rule ≤ 3) (s1 : 1 ≤ start) (s2 : start ≤ 3640000) (j : Nat) (hj : j < rs.length) :
    befF start rs j < (rs.getD j (0, 0, 0)).1 ∧ stepB (q0N start + tn j) = true ∧ stepN (q0N start + tn j) (dK start) - 10 ≤ (rs.getD j (0, 0, 0)).1 ∧ (rs.getD j (0, 0, 0)).1 ≤ stepN (q0N start + tn j) (dK start) + 10 ∧ (rule = 0 → (rs.getD j (0, 0, 0)).1 = stepN (q0N start + tn j) (dK start)) ∧ (rule ≠ 0 → workB (rs.getD j (0, 0, 0)).1 xs = true) ∧ 1 ≤ stepN (q0N start + tn j) (dK start) ∧ stepN (q0N start + tn j) (dK start) ≤ 3652059 := by
  obtain ⟨_, _, _, _, _, _, hd, t1, t2⟩ := am.row j hj
  obtain ⟨d, p1, p2, p3, p4, p5, p6, p7, p8⟩ := due_facts start rule xs hx u0 u1 s1 s2 (tn j) t1 (by omega)
  rw [hd] at p1
  obtain rfl := Option.some.inj p1
  refine ⟨?_, p2, p3, p4, p5, p6, by omega, by omega⟩
  cases j with
  | zero => show start < _; omega
  | succ i =>
    obtain ⟨_, _, _, _, _, _, hd', t1', t2'⟩ := am.row i (by omega)
    have ht := am.turns i hj
    rw [ht] at hd
    exact due_rises start rule xs hx u0 u1 s1 s2 (tn i) t1' (by omega) _ _ hd' hd

theorem held8 {W a b : World} {p1 p2 p3 p4 p5 p6 p7 p8 : Addr} {v1 v2 v3 v4 v5 v6 v7 v8 : Value} (hU : Up a b)
    (h : Up W a ∧ a.cell? p1 = some v1 ∧ a.cell? p2 = some v2 ∧ a.cell? p3 = some v3 ∧ a.cell? p4 = some v4 ∧ a.cell? p5 = some v5 ∧ a.cell? p6 = some v6 ∧ a.cell? p7 = some v7 ∧ a.cell? p8 = some v8) :
    Up W b ∧ b.cell? p1 = some v1 ∧ b.cell? p2 = some v2 ∧ b.cell? p3 = some v3 ∧ b.cell? p4 = some v4 ∧ b.cell? p5 = some v5 ∧ b.cell? p6 = some v6 ∧ b.cell? p7 = some v7 ∧ b.cell? p8 = some v8 :=
  ⟨h.1.trans hU, hU.cell h.2.1, hU.cell h.2.2.1, hU.cell h.2.2.2.1, hU.cell h.2.2.2.2.1, hU.cell h.2.2.2.2.2.1, hU.cell h.2.2.2.2.2.2.1, hU.cell h.2.2.2.2.2.2.2.1, hU.cell h.2.2.2.2.2.2.2.2⟩

end Go.Proofs.YtkabfdajpilomabDoor
