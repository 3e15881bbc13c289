/-
  Ours: the law WireReadsList walked.
-/
import Derived.Test.YtfdahdloihgjeaaWirAsked
namespace Go.Proofs.Ytfdahdloihgjeaa
open Go.RowKit

set_option maxRecDepth 20000 in
set_option maxHeartbeats 1000000 in
theorem wireReadsList_any (bs : List Nat) (p : Int) (v : Value) (w : World) (hb : ∀ c ∈ bs, c < 256) (hl : bs.length ≤ 1048576) (p0 : -9223372036854775808 ≤ p) (p1 : p ≤ 9223372036854775807) (h : RdB w v bs) :
    Calls Try.prog 4 #[v, .int .i64 p] w fun e w' => e = .returned (.bool true) ∧ Below w.heap.size w w' := by
  have CP : Hid (Calls Try.prog 16 #[v] w (NewB w bs)) := copied_at bs v w (by omega) h
  have LO : Hid (∀ w' v', RdB w' v' bs → Calls Try.prog 15 #[v', .int .i64 p, .func (.func 17) #[] #[]] w' (ListAns w' (listR (oddG bs) bs p))) := fun w' v' h' =>
    listOdd_at (oddG bs) bs p v' w' hb (by omega) p0 p1 h' (fun w'' q h1 h2 h3 => odd_at bs q v' w'' hb (by omega) h1 h2 h3)
  have OD : Hid (∀ w', Below w.heap.size w w' → Calls Try.prog 18 #[v, .int .i64 p] w' (ListAns w' (listR (oddG bs) bs p))) := fun w' h' => oddly_at bs p v w' hb (by omega) p0 p1 (Rd.later h h')
  have AK : Hid (∀ w', Below w.heap.size w w' → Calls Try.prog 19 #[v, .int .i64 p] w' fun e w'' => e = .returned (.bool true) ∧ Below w'.heap.size w' w'') := fun w' h' => asked_at bs p v w' hb (by omega) p0 p1 (Rd.later h h')
  have LL : Hid (∀ xs q, listR (oddG bs) bs p = some (xs, q) → xs.length ≤ 1048576) := fun xs q he => by
    unfold listR at he
    cases hr : lenR bs p with
    | none => rw [hr] at he; cases he
    | some nf =>
      obtain ⟨n, f⟩ := nf
      rw [hr] at he
      have := elems_len _ _ _ _ _ he
      have := lenR_le hb hr
      simp at *; omega
  generalize listR (oddG bs) bs p = R at *
  clear h hb hl p0 p1
  go_enter Try.func4, Try.ntmps4
  go_wp2_with fail
  refine CP.out.mono ?_
  rintro e w1 ⟨v1, rfl, r1, b1⟩
  have Q1 : Hid (RdB w1 v1 bs) := RowV.rd r1
  clear r1
  go_wp2_with fail
  refine (LO.out _ _ Q1.out).mono ?_
  rintro e w2 ⟨v2, xs, q, k, rfl, r2, b2, D2⟩
  have B2 := below_trans b1 b2
  have D2' : Hid ((R = none ∧ xs = [] ∧ q = 0 ∧ k = false) ∨ (R = some (xs, q) ∧ k = true)) := D2
  clear D2
  go_wp2_with fail
  refine (OD.out _ B2).mono ?_
  rintro e w3 ⟨v3, ys, q3, k3, rfl, r3, b3, D3⟩
  obtain ⟨rfl, rfl, rfl⟩ : xs = ys ∧ q = q3 ∧ k = k3 := by
    rcases D2'.out with ⟨h1, h2, h3, h4⟩ | ⟨h1, h2⟩
    · rcases D3 with ⟨g1, g2, g3, g4⟩ | ⟨g1, g2⟩
      · subst h2; subst g2; exact ⟨rfl, by rw [h3, g3], by rw [h4, g4]⟩
      · rw [h1] at g1; cases g1
    · rcases D3 with ⟨g1, g2, g3, g4⟩ | ⟨g1, g2⟩
      · rw [h1] at g1; cases g1
      · rw [h1] at g1; cases g1; exact ⟨rfl, rfl, by rw [h2, g2]⟩
  have B3 := below_trans B2 b3
  have R2 : Hid (RdI w3 v2 xs) := RowV.rd (RowV.later r2 b3)
  have R3 : Hid (RdI w3 v3 xs) := RowV.rd r3
  have lx : xs.length ≤ 1048576 := by
    rcases D3 with ⟨_, h2, _⟩ | ⟨h1, _⟩
    · subst h2; simp
    · exact LL.out _ _ h1
  have e1 : (q == q) = true := by simp
  have e2 : (k == k) = true := by simp
  clear D2' D3 r2 r3
  go_wp2_with fail
  refine (sameNums_at xs xs _ _ _ (by omega) R2.out R3.out).mono ?_
  rintro e w4 ⟨rfl, n4, rfl⟩
  rw [decide_eq_true rfl]
  have B4 := below_drewN B3 n4
  generalize w3.drewN n4 = W4 at *
  go_wp2_with fail
  refine (AK.out _ B4).mono ?_
  rintro e w5 ⟨rfl, b5⟩
  go_wp2_with fail
  go_ret
  exact ⟨rfl, below_trans B4 b5⟩
end Go.Proofs.Ytfdahdloihgjeaa
