/-
  Ours: Trial, the program's.
-/
import Derived.Test.YtacdnigeboeleaaDoorLedTrialM
import Derived.Test.YtacdnigeboeleaaDoorLedWide
import Derived.Test.YtacdnigeboeleaaDoorLedNet
namespace Go.Proofs.YtacdnigeboeleaaDoor
open Go.RowKit LedM

set_option maxHeartbeats 1000000 in
theorem trial_at (l : List Int) (w : World) (hl : BkOk l) : Calls Tryd.prog 29 #[.agg (bkL l).toArray] w fun e w' => e = .returned (trV l) ∧ Below w.heap.size w w' := by
  have PL : Hid (∀ (s : Int) k (w : World), Calls Tryd.prog 38 #[.agg (wdL s).toArray, .int .i64 (l.getD k 0)] w fun e w' => e = .returned (.agg (wdL (s + l.getD k 0)).toArray) ∧ Below w.heap.size w w') := fun s k w => wplus_at s _ w (hl.2 k).1 (hl.2 k).2
  have MI : Hid (∀ (s : Int) k (w : World), Calls Tryd.prog 39 #[.agg (wdL s).toArray, .int .i64 (l.getD k 0)] w fun e w' => e = .returned (.agg (wdL (s - l.getD k 0)).toArray) ∧ Below w.heap.size w w') := fun s k w => wminus_at s _ w (hl.2 k).1 (hl.2 k).2
  have lu : (ups l).length ≤ 12 := by have := List.length_filter_le (fun x => decide (0 < x)) l; rw [hl.1] at this; exact this
  have ld : (dns l).length ≤ 12 := by have := List.length_filter_le (fun x => !decide (0 < x)) l; rw [hl.1] at this; exact this
  have NR : Hid (∀ w : World, Calls Tryd.prog 40 #[.agg (wdL (trD l)).toArray] w fun e w' => e = .returned (.tuple #[.int .i64 (smV (trD l)), .bool (smOk (trD l))]) ∧ Below w.heap.size w w') := fun w => narrow_at _ w (by
    have := total_le (i64_filter (fun x => decide (0 < x)) hl.2)
    show _ ∧ _
    unfold trD ups at *
    omega)
  have NC : Hid (∀ w : World, Calls Tryd.prog 40 #[.agg (wdL (trC l)).toArray] w fun e w' => e = .returned (.tuple #[.int .i64 (smV (trC l)), .bool (smOk (trC l))]) ∧ Below w.heap.size w w') := fun w => narrow_at _ w (by
    have := total_le (i64_filter (fun x => !decide (0 < x)) hl.2)
    show _ ∧ _
    unfold trC dns at *
    omega)
  have IX : Hid (∀ (k : Nat), k < 12 → ∀ w : World, (Instr.index 23 (.agg (bkL l).toArray) (.int .i64 (k : Int))).run Tryd.prog w = .ok (.int .i64 (l.getD k 0)) w) := fun k hk w => index_net k hl.1 hk w
  have CI : Hid ((Tryd.prog.info? 23).map (·.size) = some (bkL l).length) := by show _ = _; rw [bkL_len, hl.1]; exact cellsNet
  have LY : Hid (∀ k, k < 12 → 0 < l.getD k 0 → trD (l.take (k + 1)) = trD (l.take k) + l.getD k 0 ∧ trC (l.take (k + 1)) = trC (l.take k)) := fun k hk hx => by
    obtain ⟨e1, e2⟩ := ups_yes (l := l) (k := k) (by rw [hl.1]; exact hk) hx
    unfold trD trC
    rw [e1, e2, total_push]; exact ⟨rfl, rfl⟩
  have LN : Hid (∀ k, k < 12 → l.getD k 0 ≤ 0 → trD (l.take (k + 1)) = trD (l.take k) ∧ trC (l.take (k + 1)) = trC (l.take k) - l.getD k 0) := fun k hk hx => by
    obtain ⟨e1, e2⟩ := ups_no (l := l) (k := k) (by rw [hl.1]; exact hk) (by omega)
    unfold trD trC
    rw [e1, e2, total_push]; exact ⟨rfl, by omega⟩
  have HF : Hid (l.take 12 = l) := List.take_of_length_le (by rw [hl.1]; exact Nat.le_refl _)
  have NB0 : Hid (Blk w.heap.size 25 (bkL l) (((w.alloc (.cells (bkL l).toArray 25)).alloc (.cells #[.int .u64 0, .int .u64 0] 50)).alloc (.cells #[.int .u64 0, .int .u64 0] 50))) := ((Blk.new 25 (bkL l) w).old _).old _
  have NB1 : Hid (Blk (w.heap.size + 1) 50 (wdL 0) (((w.alloc (.cells (bkL l).toArray 25)).alloc (.cells #[.int .u64 0, .int .u64 0] 50)).alloc (.cells #[.int .u64 0, .int .u64 0] 50))) := (Blk.new2 50 [.int .u64 0, .int .u64 0] w _).old _
  have NB2 : Hid (Blk (w.heap.size + 1 + 1) 50 (wdL 0) (((w.alloc (.cells (bkL l).toArray 25)).alloc (.cells #[.int .u64 0, .int .u64 0] 50)).alloc (.cells #[.int .u64 0, .int .u64 0] 50))) := Blk.new3 50 [.int .u64 0, .int .u64 0] w _ _
  have BB : Hid (Below w.heap.size w (((w.alloc (.cells (bkL l).toArray 25)).alloc (.cells #[.int .u64 0, .int .u64 0] 50)).alloc (.cells #[.int .u64 0, .int .u64 0] 50))) := ((below_alloc w _).alloc (by simp) _).alloc (by simp; omega) _
  clear hl lu ld
  unfold trV
  obtain ⟨x1, X1⟩ : ∃ x, Hid ((if trOk l then trD l else 0) = x) := ⟨_, rfl⟩
  obtain ⟨x2, X2⟩ : ∃ x, Hid ((if trOk l then trC l else 0) = x) := ⟨_, rfl⟩
  obtain ⟨K, XK⟩ : ∃ x, Hid (trOk l = x) := ⟨_, rfl⟩
  rw [X1.out, X2.out, XK.out]
  go_enter Tryd.func29, Tryd.ntmps29
  go_wp2_with (refine step_load rfl 23 _ rfl w.heap.size 0 rfl (bkL l) _ NB0.out.all Tryd.underlying23 rfl CI.out ?_)
  go_loopw [8, 15] (fun vn vk wr => ∃ k : Nat, vk = .int .i64 (k : Int) ∧ k ≤ 12 ∧ Blk (w.heap.size + 1) 50 (wdL (trD (l.take k))) wr ∧ Blk (w.heap.size + 1 + 1) 50 (wdL (trC (l.take k))) wr ∧ Below w.heap.size w wr) (fun _ vk _ => 12 - (intOf vk).toNat)
  case atStart => exact ⟨0, rfl, by omega, NB1.out, NB2.out, BB.out⟩
  case round =>
    clear NB0 NB1 NB2 BB
    obtain ⟨k, rfl, hk, n1, n2, bb⟩ := hrel
    have N1 : Hid (Blk (w.heap.size + 1) 50 (wdL (trD (l.take k))) wr) := n1
    have N2 : Hid (Blk (w.heap.size + 1 + 1) 50 (wdL (trC (l.take k))) wr) := n2
    have BB : Hid (Below w.heap.size w wr) := bb
    clear n1 n2 bb
    by_cases hlt : (k : Int) < 12
    · have ix := IX.out k (by omega)
      have pl := PL.out (trD (l.take k)) k
      have mi := MI.out (trC (l.take k)) k
      have PK : Hid (∀ w : World, Calls Tryd.prog 38 #[.agg (wdL (trD (l.take k))).toArray, .int .i64 (l.getD k 0)] w fun e w' => e = .returned (.agg (wdL (trD (l.take k) + l.getD k 0)).toArray) ∧ Below w.heap.size w w') := pl
      have MK : Hid (∀ w : World, Calls Tryd.prog 39 #[.agg (wdL (trC (l.take k))).toArray, .int .i64 (l.getD k 0)] w fun e w' => e = .returned (.agg (wdL (trC (l.take k) - l.getD k 0)).toArray) ∧ Below w.heap.size w w') := mi
      have ly : Hid (0 < l.getD k 0 → trD (l.take (k + 1)) = trD (l.take k) + l.getD k 0 ∧ trC (l.take (k + 1)) = trC (l.take k)) := LY.out k (by omega)
      have ln : Hid (l.getD k 0 ≤ 0 → trD (l.take (k + 1)) = trD (l.take k) ∧ trC (l.take (k + 1)) = trC (l.take k) - l.getD k 0) := LN.out k (by omega)
      clear pl mi PL MI
      generalize trD (l.take k) = A at *
      generalize trC (l.take k) = B at *
      generalize l.getD k 0 = x at *
      by_cases hx : 0 < x
      · obtain ⟨ea, eb⟩ := ly.out hx
        have EA : Hid (trD (l.take (k + 1)) = A + x) := ea
        have EB : Hid (trC (l.take (k + 1)) = B) := eb
        have d1 : decide (0 < x) = true := decide_eq_true hx
        clear ea eb ly ln hx
        go_wp2_with (refine step_load rfl 50 _ rfl (w.heap.size + 1) 0 rfl (wdL A) _ N1.out.all Tryd.underlying50 rfl infoW ?_)
        refine (PK.out _).mono ?_
        rintro e w1 ⟨rfl, b1⟩
        have M1 : Hid (Blk (w.heap.size + 1) 50 (wdL A) w1) := N1.out.below b1
        go_wp2_with (refine step_store rfl 50 _ _ rfl (w.heap.size + 1) 0 50 (wdL A) (wdL (A + x)) rfl rfl M1.out (Nat.le_refl _) infoW (oneW _ _) ?_; intro w2 nb2 g2)
        go_roundw
        case rel => exact ⟨k + 1, by go_num, by omega, by rw [EA.out]; exact nb2, by rw [EB.out]; exact (N2.out.below b1).grown g2 (by simp), below_row (below_trans BB.out b1) g2 (by omega)⟩
        case measure => simp [intOf]; omega
      · obtain ⟨ea, eb⟩ := ln.out (by omega)
        have EA : Hid (trD (l.take (k + 1)) = A) := ea
        have EB : Hid (trC (l.take (k + 1)) = B - x) := eb
        have d1 : decide (0 < x) = false := decide_eq_false hx
        clear ea eb ly ln hx
        go_wp2_with (refine step_load rfl 50 _ rfl (w.heap.size + 1 + 1) 0 rfl (wdL B) _ N2.out.all Tryd.underlying50 rfl infoW ?_)
        refine (MK.out _).mono ?_
        rintro e w1 ⟨rfl, b1⟩
        have M1 : Hid (Blk (w.heap.size + 1 + 1) 50 (wdL B) w1) := N2.out.below b1
        go_wp2_with (refine step_store rfl 50 _ _ rfl (w.heap.size + 1 + 1) 0 50 (wdL B) (wdL (B - x)) rfl rfl M1.out (Nat.le_refl _) infoW (oneW _ _) ?_; intro w2 nb2 g2)
        go_roundw
        case rel => exact ⟨k + 1, by go_num, by omega, by rw [EA.out]; exact (N1.out.below b1).grown g2 (by simp), by rw [EB.out]; exact nb2, below_row (below_trans BB.out b1) g2 (by omega)⟩
        case measure => simp [intOf]; omega
    · obtain rfl : k = 12 := by omega
      rw [HF.out] at N1 N2
      clear hlt hk PL MI LY LN IX
      obtain ⟨ka, KA⟩ : ∃ k, Hid (smOk (trD l) = k) := ⟨_, rfl⟩
      obtain ⟨kb, KB⟩ : ∃ k, Hid (smOk (trC l) = k) := ⟨_, rfl⟩
      obtain ⟨va, VA⟩ : ∃ v, Hid (smV (trD l) = v) := ⟨_, rfl⟩
      obtain ⟨vb, VB⟩ : ∃ v, Hid (smV (trC l) = v) := ⟨_, rfl⟩
      rw [KA.out, VA.out] at NR
      rw [KB.out, VB.out] at NC
      have E : Hid (K = (ka && kb) ∧ (x1 = if (ka && kb) then va else 0) ∧ (x2 = if (ka && kb) then vb else 0)) := by
        show _ ∧ _ ∧ _
        have k0 : trOk l = (ka && kb) := by rw [← KA.out, ← KB.out]; rfl
        refine ⟨XK.out.symm.trans k0, ?_, ?_⟩
        · rw [← X1.out, k0, ← VA.out]; unfold smV; rw [KA.out]; cases ka <;> cases kb <;> rfl
        · rw [← X2.out, k0, ← VB.out]; unfold smV; rw [KB.out]; cases ka <;> cases kb <;> rfl
      clear KA KB VA VB X1 X2 XK
      generalize trD l = A at *
      generalize trC l = B at *
      go_wp2_with (refine step_load rfl 50 _ rfl (w.heap.size + 1) 0 rfl (wdL A) _ N1.out.all Tryd.underlying50 rfl infoW ?_)
      refine (NR.out _).mono ?_
      rintro e w1 ⟨rfl, b1⟩
      have M1 : Hid (Blk (w.heap.size + 1 + 1) 50 (wdL B) w1) := N2.out.below b1
      go_wp2_with (refine step_load rfl 50 _ rfl (w.heap.size + 1 + 1) 0 rfl (wdL B) _ M1.out.all Tryd.underlying50 rfl infoW ?_)
      refine (NC.out _).mono ?_
      rintro e w2 ⟨rfl, b2⟩
      have FIN : Hid (Below w.heap.size w w2) := below_trans (below_trans BB.out b1) b2
      clear b1 b2 BB N1 N2 M1 NR NC
      cases ka <;> cases kb
      all_goals
        go_wp2_with fail
        go_ret3
        obtain ⟨e1, e2, e3⟩ := E.out
        simp at e1 e2 e3
        subst e1 e2 e3
        exact ⟨rfl, FIN.out⟩
end Go.Proofs.YtacdnigeboeleaaDoor
