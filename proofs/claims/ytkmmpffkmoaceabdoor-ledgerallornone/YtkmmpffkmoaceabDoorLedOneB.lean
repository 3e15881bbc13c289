/-
  Ours: LedgerAllOrNone, refused.
-/
import Derived.Test.YtkmmpffkmoaceabDoorLedOne
namespace Go.Proofs.YtkmmpffkmoaceabDoor
open Go.RowKit LedM

set_option maxRecDepth 20000 in
set_option maxHeartbeats 2000000 in
theorem one_ref_any (l : List Int) (d c a : Int) (w : World) (hl : BkOk l) (hd : i64 d) (hc : i64 c) (ha : i64 a) (hT : TabD w) (g1 : isA d = true) (g2 : isA c = true) (g3 : d ≠ c) (hne : postE l [⟨d, c, a⟩] ≠ 0) :
    Calls Tryd.prog 3 #[.agg (bkL l).toArray, .int .i64 d, .int .i64 c, .int .i64 a] w fun e w' => e = .returned (.bool true) ∧ Below w.heap.size w w' := by
  have KP : Hid (Kept w [(w.heap.size, l)] (w.alloc (.cells (bkL l).toArray 24))) := Kept.first w l hl.1
  have PO : Hid (Calls Tryd.prog 8 #[.agg (bkL l).toArray, .slice (some ⟨w.heap.size + 1, 0, none⟩) 1 1] ((w.alloc (.cells (bkL l).toArray 24)).alloc (.cells #[.int .i64 d, .int .i64 c, .int .i64 a] 29)) fun e w2 => e = .returned (.tuple #[.agg (bkL (postB l [⟨d, c, a⟩])).toArray, .int .i64 (postE l [⟨d, c, a⟩])]) ∧ Below ((w.alloc (.cells (bkL l).toArray 24)).alloc (.cells #[.int .i64 d, .int .i64 c, .int .i64 a] 29)).heap.size ((w.alloc (.cells (bkL l).toArray 24)).alloc (.cells #[.int .i64 d, .int .i64 c, .int .i64 a] 29)) w2) := by
    have hr := RdE.one (w.alloc (.cells (bkL l).toArray 24)) ⟨d, c, a⟩
    rw [show (w.alloc (.cells (bkL l).toArray 24)).heap.size = w.heap.size + 1 from by simp] at hr
    exact post_at l [⟨d, c, a⟩] (.slice (some ⟨w.heap.size + 1, 0, none⟩) 1 1) ((w.alloc (.cells (bkL l).toArray 24)).alloc (.cells (entL ⟨d, c, a⟩).toArray 29)) hl (fun e he => by simp at he; subst he; exact ⟨hd, hc, ha⟩) (by simp) hr (hT.later (below_trans KP.out.bb (below_alloc _ _)))
  have LL : Hid (l.length = 12) := hl.1
  have PS : Hid (∀ w', Below w.heap.size w w' → Calls Tryd.prog 11 #[] w' fun e w2 => e = .returned (.bool true) ∧ Below w'.heap.size w' w2) := fun w' hb => posts_at w' (hT.later hb)
  have SM : Hid (∀ (w' : World), Calls Tryd.prog 9 #[.agg (bkL l).toArray, .agg (bkL l).toArray] w' fun e w2 => e = .returned (.bool true) ∧ Below w'.heap.size w' w2) := fun w' => by have := same_at l l w' hl.1 hl.1; rwa [decide_eq_true rfl] at this
  have b1 : 0 ≤ d ∧ d < 12 := by simpa [isA] using g1
  have b2 : 0 ≤ c ∧ c < 12 := by simpa [isA] using g2
  have e0 : decide (d < 0) = false := decide_eq_false (by omega)
  have e1 : decide (11 < d) = false := decide_eq_false (by omega)
  have e2 : decide (c < 0) = false := decide_eq_false (by omega)
  have e3 : decide (11 < c) = false := decide_eq_false (by omega)
  have e9 : (d == c) = false := beq_eq_false_iff_ne.2 g3
  rw [postB_no hne] at PO
  have EV : (a < 1 ∧ postE l [⟨d, c, a⟩] = 4) ∨ (¬ a < 1 ∧ postE l [⟨d, c, a⟩] = 3) ∨ (¬ a < 1 ∧ postE l [⟨d, c, a⟩] = 81) := by
    by_cases h4 : a < 1
    · exact .inl ⟨h4, one_small g1 g2 g3 h4⟩
    · rcases one_vals (l := l) g1 g2 g3 h4 with e | e | e
      · exact absurd e hne
      · exact .inr (.inl ⟨h4, e⟩)
      · exact .inr (.inr ⟨h4, e⟩)
  generalize postE l [⟨d, c, a⟩] = E at *
  clear hl hT hd hc ha g1 g2 g3 b1 b2 hne PS
  go_enter Tryd.func3, Tryd.ntmps3
  go_wp2_with (first
  | (refine step_get KP.out 0 rfl rfl _ rfl rfl ?_))
  refine PO.out.mono ?_
  rintro e w1 ⟨rfl, b1⟩
  have KP1 : Hid (Kept w [(w.heap.size, l)] w1) := (KP.out.alloc _).call b1
  clear KP b1 PO
  have KP : Hid (Kept w [(w.heap.size, l)] w1) := KP1.out
  clear KP1
  rcases EV with ⟨h4, rfl⟩ | ⟨h4, rfl⟩ | ⟨h4, rfl⟩
  · have ea : decide (a < 1) = true := decide_eq_true h4
    clear h4
    go_wp2_with (first
      | (refine step_put KP.out l LL.out rfl _ _ rfl rfl rfl ?_; clear KP; intro w2 KP'; intro _; have KP : Hid (Kept _ _ _) := KP'; clear KP')
      | (refine step_get KP.out 1 rfl rfl _ rfl rfl ?_)
      | (refine step_get KP.out 0 rfl rfl _ rfl rfl ?_))
    refine (SM.out _).mono ?_
    rintro e w3 ⟨rfl, bw3⟩
    have KP' : Kept _ _ w3 := KP.out.call bw3
    clear KP bw3
    have KP : Hid (Kept _ _ w3) := KP'
    clear KP'
    go_wp2_with fail
    go_ret
    exact ⟨rfl, KP.out.bb⟩
  · have ea : decide (a < 1) = false := decide_eq_false (by omega)
    clear h4
    go_wp2_with (first
      | (refine step_put KP.out l LL.out rfl _ _ rfl rfl rfl ?_; clear KP; intro w2 KP'; intro _; have KP : Hid (Kept _ _ _) := KP'; clear KP')
      | (refine step_get KP.out 1 rfl rfl _ rfl rfl ?_)
      | (refine step_get KP.out 0 rfl rfl _ rfl rfl ?_))
    refine (SM.out _).mono ?_
    rintro e w3 ⟨rfl, bw3⟩
    have KP' : Kept _ _ w3 := KP.out.call bw3
    clear KP bw3
    have KP : Hid (Kept _ _ w3) := KP'
    clear KP'
    go_wp2_with fail
    go_ret
    exact ⟨rfl, KP.out.bb⟩
  · have ea : decide (a < 1) = false := decide_eq_false (by omega)
    clear h4
    go_wp2_with (first
      | (refine step_put KP.out l LL.out rfl _ _ rfl rfl rfl ?_; clear KP; intro w2 KP'; intro _; have KP : Hid (Kept _ _ _) := KP'; clear KP')
      | (refine step_get KP.out 1 rfl rfl _ rfl rfl ?_)
      | (refine step_get KP.out 0 rfl rfl _ rfl rfl ?_))
    refine (SM.out _).mono ?_
    rintro e w3 ⟨rfl, bw3⟩
    have KP' : Kept _ _ w3 := KP.out.call bw3
    clear KP bw3
    have KP : Hid (Kept _ _ w3) := KP'
    clear KP'
    go_wp2_with fail
    go_ret
    exact ⟨rfl, KP.out.bb⟩
end Go.Proofs.YtkmmpffkmoaceabDoor
