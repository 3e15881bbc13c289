/-
  Ours: the walk of AgingReach.
-/
import Derived.Test.YtekejcpgoijoaabAgRef2
import Derived.Test.YtekejcpgoijoaabAgSame
namespace Go.Proofs.Ytekejcpgoijoaab
open Go.RowKit LedM AgM

set_option maxRecDepth 20000 in
set_option maxHeartbeats 2000000 in
theorem reachL_any (l : List Ins) (A R t k : Int) (v : Value) (w : World) (ok : ∀ x ∈ l, InsOk x) (hA : i64 A) (h : RdP w v l) :
    Calls Try.prog 3 #[v, .agg #[.int .i64 A, .int .i64 R], .int .i64 t, .int .i64 k] w fun e w' => e = .returned (.bool true) ∧ Below w.heap.size w w' := by
  have BC : Hid (Below w.heap.size w (w.alloc (.cells #[.int .i64 A, .int .i64 R] 24)) ∧ (w.alloc (.cells #[.int .i64 A, .int .i64 R] 24)).cell? ⟨w.heap.size, 0, none⟩ = some (.int .i64 A) ∧ (w.alloc (.cells #[.int .i64 A, .int .i64 R] 24)).cell? ⟨w.heap.size, 1, none⟩ = some (.int .i64 R)) := ⟨below_alloc w _, (Blk.new 24 [.int .i64 A, .int .i64 R] w).cell 0 _ rfl, (Blk.new 24 [.int .i64 A, .int .i64 R] w).cell 1 _ rfl⟩
  by_cases h4 : l.length ≤ 400
  case neg =>
    obtain ⟨ao, cap, rfl, -, -, -⟩ := h
    generalize l.length = L at *
    have q : (400 : Int) < (L : Int) := by omega
    go_enter Try.func3, Try.ntmps3
    go_wp2_with fail
    go_ret
    exact ⟨rfl, BC.out.1⟩
  case pos =>
    obtain ⟨n, hn⟩ := SatF.ex (sP l) A R
    have CP : Hid (∀ w', Below w.heap.size w w' → Calls Try.prog 6 #[v] w' fun e w2 => ∃ v', e = .returned v' ∧ RowP w'.heap.size w2 v' l ∧ Below w'.heap.size w' w2) := fun w' hb => copied_at l v w' (by omega) (h.later hb)
    have RE : Hid (∀ v' w', RdP w' v' l → Calls Try.prog 7 #[v', .agg #[.int .i64 A, .int .i64 R], .int .i64 t, .int .i64 k] w' fun e w2 => e = .returned (.tuple #[.int .i64 (rchV l n t k), .bool (rchB l n t k)]) ∧ Below w'.heap.size w' w2) := fun v' w' hr => reach_at l A R t k n v' w' (by omega) ok hA hn hr
    have RF : Hid (∀ v' w', RdP w' v' l → Calls Try.prog 8 #[v', .agg #[.int .i64 A, .int .i64 R], .int .i64 t, .int .i64 k] w' fun e w2 => e = .returned (.tuple #[.int .i64 (rchV l n t k), .bool (rchB l n t k)]) ∧ Below w'.heap.size w' w2) := fun v' w' hr => rreach_at l A R t k n v' w' (by omega) ok hA hn hr
    have SM : Hid (∀ va vb w', RdP w' va l → RdP w' vb l → Calls Try.prog 9 #[va, vb] w' fun e w2 => e = .returned (.bool true) ∧ ∃ n, w2 = w'.drewN n) := fun va vb w' h1 h2 => sameP_yes l va vb w' (by omega) h1 h2
    have RD : Hid (∀ w', Below w.heap.size w w' → RdP w' v l) := fun w' hb => h.later hb
    generalize rchV l n t k = rv at *
    generalize rchB l n t k = rb at *
    obtain ⟨ao, cap, rfl, -, -, -⟩ := h
    obtain ⟨L, hL⟩ : ∃ L, l.length = L := ⟨_, rfl⟩
    rw [hL] at CP RD h4 ⊢
    have q : ¬ (400 : Int) < (L : Int) := by omega
    have q1 : (rv == rv) = true := by simp
    have q2 : (rb == rb) = true := by simp
    clear ok hn hL
    go_enter Try.func3, Try.ntmps3
    go_wp2_with fail
    refine (CP.out _ BC.out.1).mono ?_
    rintro e w2 ⟨v2, rfl, r2, b2⟩
    have B2 : Hid (RdP w2 v2 l ∧ (Below w.heap.size w w2 ∧ w2.cell? ⟨w.heap.size, 0, none⟩ = some (.int .i64 A) ∧ w2.cell? ⟨w.heap.size, 1, none⟩ = some (.int .i64 R))) := ⟨r2.rd, heldP b2 BC.out⟩
    clear r2 b2 BC CP
    have p0 := B2.out.2.2.1
    have p1 := B2.out.2.2.2
    go_wp2_with fail
    refine (RE.out _ _ B2.out.1).mono ?_
    rintro e w3 ⟨rfl, b3⟩
    have B3 : Hid (RdP w3 v2 l ∧ (Below w.heap.size w w3 ∧ w3.cell? ⟨w.heap.size, 0, none⟩ = some (.int .i64 A) ∧ w3.cell? ⟨w.heap.size, 1, none⟩ = some (.int .i64 R))) := ⟨B2.out.1.later b3, heldP b3 B2.out.2⟩
    clear b3 B2 p0 p1
    have p0 := B3.out.2.2.1
    have p1 := B3.out.2.2.2
    go_wp2_with fail
    refine (RF.out _ _ (RD.out _ B3.out.2.1)).mono ?_
    rintro e w4 ⟨rfl, b4⟩
    have B4 : Hid (RdP w4 v2 l ∧ RdP w4 (.slice ao L cap) l ∧ Below w.heap.size w w4) := ⟨B3.out.1.later b4, (RD.out _ B3.out.2.1).later b4, below_trans B3.out.2.1 b4⟩
    clear b4 B3 p0 p1
    go_wp2_with fail
    refine (SM.out _ _ _ B4.out.1 B4.out.2.1).mono ?_
    rintro e w5 ⟨rfl, m, rfl⟩
    go_wp2_with fail
    go_ret
    exact ⟨rfl, below_drewN B4.out.2.2 _⟩
end Go.Proofs.Ytekejcpgoijoaab
