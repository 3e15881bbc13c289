/-
  Ours: LedgerAllOrNone, bad accounts.
-/
import Derived.Test.YtkmmpffkmoaceabDoorLedOne
namespace Go.Proofs.YtkmmpffkmoaceabDoor
open Go.RowKit LedM

set_option maxRecDepth 20000 in
set_option maxHeartbeats 2000000 in
theorem one_bad_any (l : List Int) (d c a : Int) (w : World) (hl : BkOk l) (hd : i64 d) (hc : i64 c) (ha : i64 a) (hT : TabD w) (hbad : isA d = false ∨ isA c = false ∨ d = c) :
    Calls Tryd.prog 3 #[.agg (bkL l).toArray, .int .i64 d, .int .i64 c, .int .i64 a] w fun e w' => e = .returned (.bool true) ∧ Below w.heap.size w w' := by
  have KP : Hid (Kept w [(w.heap.size, l)] (w.alloc (.cells (bkL l).toArray 24))) := Kept.first w l hl.1
  have PO : Hid (Calls Tryd.prog 8 #[.agg (bkL l).toArray, .slice (some ⟨w.heap.size + 1, 0, none⟩) 1 1] ((w.alloc (.cells (bkL l).toArray 24)).alloc (.cells #[.int .i64 d, .int .i64 c, .int .i64 a] 29)) fun e w2 => e = .returned (.tuple #[.agg (bkL (postB l [⟨d, c, a⟩])).toArray, .int .i64 (postE l [⟨d, c, a⟩])]) ∧ Below ((w.alloc (.cells (bkL l).toArray 24)).alloc (.cells #[.int .i64 d, .int .i64 c, .int .i64 a] 29)).heap.size ((w.alloc (.cells (bkL l).toArray 24)).alloc (.cells #[.int .i64 d, .int .i64 c, .int .i64 a] 29)) w2) := by
    have hr := RdE.one (w.alloc (.cells (bkL l).toArray 24)) ⟨d, c, a⟩
    rw [show (w.alloc (.cells (bkL l).toArray 24)).heap.size = w.heap.size + 1 from by simp] at hr
    exact post_at l [⟨d, c, a⟩] (.slice (some ⟨w.heap.size + 1, 0, none⟩) 1 1) ((w.alloc (.cells (bkL l).toArray 24)).alloc (.cells (entL ⟨d, c, a⟩).toArray 29)) hl (fun e he => by simp at he; subst he; exact ⟨hd, hc, ha⟩) (by simp) hr (hT.later (below_trans KP.out.bb (below_alloc _ _)))
  have LL : Hid (l.length = 12) := hl.1
  have PS : Hid (∀ w', Below w.heap.size w w' → Calls Tryd.prog 11 #[] w' fun e w2 => e = .returned (.bool true) ∧ Below w'.heap.size w' w2) := fun w' hb => posts_at w' (hT.later hb)
  have SM : Hid (∀ (w' : World), Calls Tryd.prog 9 #[.agg (bkL l).toArray, .agg (bkL l).toArray] w' fun e w2 => e = .returned (.bool true) ∧ Below w'.heap.size w' w2) := fun w' => by have := same_at l l w' hl.1 hl.1; rwa [decide_eq_true rfl] at this
  have e80 := one_bad (l := l) (a := a) hbad
  rw [e80, postB_no (by rw [e80]; decide)] at PO
  clear e80 hl hT hd hc ha
  go_enter Tryd.func3, Tryd.ntmps3
  go_upto_region 1 with fail
  go_cut [33] from 15 to 32 (fun v wx => v = .bool true ∧ wx = w.alloc (.cells (bkL l).toArray 24))
  case first =>
    clear KP PO PS SM LL
    unfold isA at hbad
    have BD : Hid (d < 0 ∨ 11 < d ∨ c < 0 ∨ 11 < c ∨ d = c) := by
      rcases hbad with h | h | h
      · simp at h
        by_cases q : d < 0
        · exact .inl q
        · exact .inr (.inl (by have := h (by omega); omega))
      · simp at h
        by_cases q : c < 0
        · exact .inr (.inr (.inl q))
        · exact .inr (.inr (.inr (.inl (by have := h (by omega); omega))))
      · exact .inr (.inr (.inr (.inr h)))
    clear hbad
    by_cases q1 : d < 0
    · have e0 : decide (d < 0) = true := decide_eq_true q1
      clear q1 BD
      go_wp2_with fail
      go_meet
      exact ⟨rfl, rfl⟩
    have e0 : decide (d < 0) = false := decide_eq_false q1
    by_cases q2 : 11 < d
    · have e1 : decide (11 < d) = true := decide_eq_true q2
      clear q1 q2 BD
      go_wp2_with fail
      go_meet
      exact ⟨rfl, rfl⟩
    have e1 : decide (11 < d) = false := decide_eq_false q2
    by_cases q3 : c < 0
    · have e2 : decide (c < 0) = true := decide_eq_true q3
      clear q1 q2 q3 BD
      go_wp2_with fail
      go_meet
      exact ⟨rfl, rfl⟩
    have e2 : decide (c < 0) = false := decide_eq_false q3
    by_cases q4 : 11 < c
    · have e3 : decide (11 < c) = true := decide_eq_true q4
      clear q1 q2 q3 q4 BD
      go_wp2_with fail
      go_meet
      exact ⟨rfl, rfl⟩
    have e3 : decide (11 < c) = false := decide_eq_false q4
    have e9 : (d == c) = true := beq_iff_eq.2 (by have := BD.out; omega)
    clear q1 q2 q3 q4 BD
    go_wp2_with fail
    go_meet
    exact ⟨rfl, rfl⟩
  case rest =>
    obtain ⟨rfl, rfl⟩ := hcut
    clear hbad PS
    go_wp2_with (first
  | (refine step_get KP.out 0 rfl rfl _ rfl rfl ?_))
    refine PO.out.mono ?_
    rintro e w1 ⟨rfl, b1⟩
    have KP1 : Hid (Kept w [(w.heap.size, l)] w1) := (KP.out.alloc _).call b1
    clear KP b1 PO
    have KP : Hid (Kept w [(w.heap.size, l)] w1) := KP1.out
    clear KP1
    go_wp2_with (first
  | (refine step_put KP.out l LL.out rfl _ _ rfl rfl rfl ?_; clear KP; intro w2 KP'; intro _; have KP : Hid (Kept _ _ _) := KP'; clear KP')
  | (refine step_getG KP.out 1 rfl rfl _ rfl rfl ?_)
  | (refine step_getG KP.out 0 rfl rfl _ rfl rfl ?_))
    refine (SM.out _).mono ?_
    rintro e w3 ⟨rfl, bw3⟩
    have KP' : Kept _ _ w3 := KP.out.call bw3
    clear KP bw3
    have KP : Hid (Kept _ _ w3) := KP'
    clear KP'
    go_wp2_with fail
    go_ret
    exact ⟨rfl, KP.out.bb⟩
end Go.Proofs.YtkmmpffkmoaceabDoor
