/-
  Ours: LedgerAllOrNone, taken.
-/
import Derived.Test.YtkmmpffkmoaceabDoorLedOne
namespace Go.Proofs.YtkmmpffkmoaceabDoor
open Go.RowKit LedM

set_option maxRecDepth 20000 in
set_option maxHeartbeats 2000000 in
theorem one_tak_any (l : List Int) (d c a : Int) (w : World) (hl : BkOk l) (hd : i64 d) (hc : i64 c) (ha : i64 a) (hT : TabD w) (g1 : isA d = true) (g2 : isA c = true) (g3 : d ≠ c) (hz : postE l [⟨d, c, a⟩] = 0) :
    Calls Tryd.prog 3 #[.agg (bkL l).toArray, .int .i64 d, .int .i64 c, .int .i64 a] w fun e w' => e = .returned (.bool true) ∧ Below w.heap.size w w' := by
  have KP : Hid (Kept w [(w.heap.size, l)] (w.alloc (.cells (bkL l).toArray 24))) := Kept.first w l hl.1
  have PO : Hid (Calls Tryd.prog 8 #[.agg (bkL l).toArray, .slice (some ⟨w.heap.size + 1, 0, none⟩) 1 1] ((w.alloc (.cells (bkL l).toArray 24)).alloc (.cells #[.int .i64 d, .int .i64 c, .int .i64 a] 29)) fun e w2 => e = .returned (.tuple #[.agg (bkL (postB l [⟨d, c, a⟩])).toArray, .int .i64 (postE l [⟨d, c, a⟩])]) ∧ Below ((w.alloc (.cells (bkL l).toArray 24)).alloc (.cells #[.int .i64 d, .int .i64 c, .int .i64 a] 29)).heap.size ((w.alloc (.cells (bkL l).toArray 24)).alloc (.cells #[.int .i64 d, .int .i64 c, .int .i64 a] 29)) w2) := by
    have hr := RdE.one (w.alloc (.cells (bkL l).toArray 24)) ⟨d, c, a⟩
    rw [show (w.alloc (.cells (bkL l).toArray 24)).heap.size = w.heap.size + 1 from by simp] at hr
    exact post_at l [⟨d, c, a⟩] (.slice (some ⟨w.heap.size + 1, 0, none⟩) 1 1) ((w.alloc (.cells (bkL l).toArray 24)).alloc (.cells (entL ⟨d, c, a⟩).toArray 29)) hl (fun e he => by simp at he; subst he; exact ⟨hd, hc, ha⟩) (by simp) hr (hT.later (below_trans KP.out.bb (below_alloc _ _)))
  have LL : Hid (l.length = 12) := hl.1
  have PS : Hid (∀ w', Below w.heap.size w w' → Calls Tryd.prog 11 #[] w' fun e w2 => e = .returned (.bool true) ∧ Below w'.heap.size w' w2) := fun w' hb => posts_at w' (hT.later hb)
  have SM : Hid (∀ (w' : World), Calls Tryd.prog 9 #[.agg (bkL l).toArray, .agg (bkL l).toArray] w' fun e w2 => e = .returned (.bool true) ∧ Below w'.heap.size w' w2) := fun w' => by have := same_at l l w' hl.1 hl.1; rwa [decide_eq_true rfl] at this
  have b1 : 0 ≤ d ∧ d < 12 := by simpa [isA] using g1
  have b2 : 0 ≤ c ∧ c < 12 := by simpa [isA] using g2
  have e0 : decide (d < 0) = false := decide_eq_false (by omega)
  have e1 : decide (11 < d) = false := decide_eq_false (by omega)
  have e2 : decide (c < 0) = false := decide_eq_false (by omega)
  have e3 : decide (11 < c) = false := decide_eq_false (by omega)
  have e9 : (d == c) = false := beq_eq_false_iff_ne.2 g3
  have ha1 : ¬ a < 1 := fun h4 => by have := one_small (l := l) g1 g2 g3 h4; rw [hz] at this; cases this
  have ea : decide (a < 1) = false := decide_eq_false ha1
  have OB : Hid (BkOk (postB l [⟨d, c, a⟩])) := postB_ok hl
  have OS : Hid (∀ w', Below w.heap.size w w' → Calls Tryd.prog 10 #[.agg (bkL (postB l [⟨d, c, a⟩])).toArray] w' fun e w2 => e = .returned (.bool true) ∧ Below w'.heap.size w' w2) := fun w' hb => by
    have := ownSide_at (postB l [⟨d, c, a⟩]) w' OB.out (hT.later hb)
    rwa [show sidesB (postB l [⟨d, c, a⟩]) = true from by rw [postB_zero hz]; exact (postE_zero.1 hz).2.2.2] at this
  have HM : Hid (∀ k, k < 12 → (postB l [⟨d, c, a⟩]).getD k 0 = l.getD k 0 + ((if d = (k : Int) then a else 0) - (if c = (k : Int) then a else 0)) ∧ i64 ((postB l [⟨d, c, a⟩]).getD k 0)) := fun k hk => ⟨one_at hz k hk, OB.out.2 k⟩
  rw [hz] at PO
  generalize postB l [⟨d, c, a⟩] = pb at *
  have DC : Hid (d ≠ c) := g3
  clear hl hT hd hc ha g1 g2 g3 b1 b2 ha1 SM hz
  go_enter Tryd.func3, Tryd.ntmps3
  go_wp2_with (first
  | (refine step_get KP.out 0 rfl rfl _ rfl rfl ?_))
  refine PO.out.mono ?_
  rintro e w1 ⟨rfl, b1⟩
  have KP1 : Hid (Kept w [(w.heap.size, l)] w1) := (KP.out.alloc _).call b1
  clear KP b1 PO
  have KP : Hid (Kept w [(w.heap.size, l)] w1) := KP1.out
  clear KP1
  go_wp2_with (first
  | (refine step_put KP.out pb OB.out.1 rfl _ _ rfl rfl rfl ?_; clear KP; intro w2 KP'; intro _; have KP : Hid (Kept _ _ _) := KP'; clear KP')
  | (refine step_getG KP.out 0 rfl rfl _ rfl rfl ?_))
  refine (OS.out _ KP.out.bb).mono ?_
  rintro e w3 ⟨rfl, bw3⟩
  have KP' : Kept _ _ w3 := KP.out.call bw3
  clear KP bw3
  have KP : Hid (Kept _ _ w3) := KP'
  clear KP'
  have CE : Hid (∀ k, k < 12 → w3.cell? ⟨w.heap.size, k, none⟩ = some (.int .i64 (l.getD k 0)) ∧ w3.cell? ⟨w1.heap.size, k, none⟩ = some (.int .i64 (pb.getD k 0))) := fun k hk => ⟨(KP.out.at 1 rfl).2.cell k _ (bkL_at (by have := (KP.out.at 1 rfl).1; omega)), (KP.out.at 0 rfl).2.cell k _ (bkL_at (by have := (KP.out.at 0 rfl).1; omega))⟩
  clear OS
  go_wp2_with fail
  go_loopw [13, 14] (fun vk _ wr => ∃ k : Nat, vk = .int .i64 (k : Int) ∧ k ≤ 12 ∧ wr = w3) (fun vk _ _ => 12 - (intOf vk).toNat)
  case atStart => exact ⟨0, rfl, by omega, rfl⟩
  case round =>
    obtain ⟨k, rfl, hk, rfl⟩ := hrel
    by_cases hlt : (k : Int) < 12
    · obtain ⟨c0, c1⟩ := CE.out k (by omega)
      have i0 : (0 : Int) ≤ (k : Int) := by omega
      obtain ⟨m1, m2⟩ := HM.out k (by omega)
      by_cases qd : d = (k : Int)
      · have e5 : ((k : Int) == d) = true := beq_iff_eq.2 qd.symm
        have e6 : ((k : Int) == c) = false := beq_eq_false_iff_ne.2 (fun e => DC.out (by omega))
        rw [if_pos qd, if_neg (by have := DC.out; omega)] at m1
        have e7 : (pb.getD k 0 != wrap64 (l.getD k 0 + a)) = false := by
          unfold i64 at m2
          rw [show wrap64 (l.getD k 0 + a) = pb.getD k 0 from by unfold wrap64; omega]; simp
        generalize l.getD k 0 = x at *
        generalize pb.getD k 0 = y at *
        clear qd m1 m2
        go_wp2_with fail
        go_roundw
        case rel => exact ⟨k + 1, by go_num, by omega, by first | rfl | trivial⟩
        case measure => simp [intOf]; omega
      · have e5 : ((k : Int) == d) = false := beq_eq_false_iff_ne.2 (fun e => qd e.symm)
        by_cases qc : c = (k : Int)
        · have e6 : ((k : Int) == c) = true := beq_iff_eq.2 qc.symm
          rw [if_neg qd, if_pos qc] at m1
          have e7 : (pb.getD k 0 != wrap64 (l.getD k 0 - a)) = false := by
            unfold i64 at m2
            rw [show wrap64 (l.getD k 0 - a) = pb.getD k 0 from by unfold wrap64; omega]; simp
          generalize l.getD k 0 = x at *
          generalize pb.getD k 0 = y at *
          clear qd qc m1 m2
          go_wp2_with fail
          go_roundw
          case rel => exact ⟨k + 1, by go_num, by omega, by first | rfl | trivial⟩
          case measure => simp [intOf]; omega
        · have e6 : ((k : Int) == c) = false := beq_eq_false_iff_ne.2 (fun e => qc e.symm)
          rw [if_neg qd, if_neg qc] at m1
          have e7 : (pb.getD k 0 != l.getD k 0) = false := by rw [m1]; simp
          generalize l.getD k 0 = x at *
          generalize pb.getD k 0 = y at *
          clear qd qc m1 m2
          go_wp2_with fail
          go_roundw
          case rel => exact ⟨k + 1, by go_num, by omega, by first | rfl | trivial⟩
          case measure => simp [intOf]; omega
    · obtain rfl : k = 12 := by omega
      clear CE HM
      go_wp2_with fail
      refine (PS.out _ KP.out.bb).mono ?_
      rintro e w5 ⟨rfl, bw5⟩
      have KP' : Kept _ _ w5 := KP.out.call bw5
      clear KP bw5
      have KP : Hid (Kept _ _ w5) := KP'
      clear KP'
      go_wp2_with fail
      go_ret
      exact ⟨rfl, KP.out.bb⟩
end Go.Proofs.YtkmmpffkmoaceabDoor
