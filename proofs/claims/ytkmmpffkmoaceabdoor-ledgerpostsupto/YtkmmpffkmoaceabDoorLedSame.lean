/-
  Ours: two books alike; a right posting.
-/
import Derived.Test.YtkmmpffkmoaceabDoorLedPost
import Derived.Test.YtkmmpffkmoaceabDoorLedCat
import Derived.Test.YtkmmpffkmoaceabDoorLedBal2
namespace Go.Proofs.YtkmmpffkmoaceabDoor
open Go.RowKit LedM

set_option maxHeartbeats 1000000 in
theorem same_at (l m : List Int) (w : World) (hl : l.length = 12) (hm : m.length = 12) : Calls Tryd.prog 9 #[.agg (bkL l).toArray, .agg (bkL m).toArray] w fun e w' => e = .returned (.bool (decide (l = m))) ∧ Below w.heap.size w w' := by
  have N1 : Blk w.heap.size 24 (bkL l) ((w.alloc (.cells (bkL l).toArray 24)).alloc (.cells (bkL m).toArray 24)) := (Blk.new 24 (bkL l) w).old _
  have N2 : Blk (w.heap.size + 1) 24 (bkL m) ((w.alloc (.cells (bkL l).toArray 24)).alloc (.cells (bkL m).toArray 24)) := Blk.new2 24 (bkL m) w _
  have BB : Hid (Below w.heap.size w ((w.alloc (.cells (bkL l).toArray 24)).alloc (.cells (bkL m).toArray 24))) := (below_alloc w _).alloc (by simp) _
  have CE : Hid (∀ k, k < 12 → ((w.alloc (.cells (bkL l).toArray 24)).alloc (.cells (bkL m).toArray 24)).cell? ⟨w.heap.size, k, none⟩ = some (.int .i64 (l.getD k 0)) ∧ ((w.alloc (.cells (bkL l).toArray 24)).alloc (.cells (bkL m).toArray 24)).cell? ⟨w.heap.size + 1, k, none⟩ = some (.int .i64 (m.getD k 0))) := fun k hk => ⟨N1.cell k _ (bkL_at (by omega)), N2.cell k _ (bkL_at (by omega))⟩
  have EX : Hid ((∀ j, j < 12 → l.getD j 0 = m.getD j 0) → l = m) := fun h => ext12 hl hm h
  obtain ⟨K, HK⟩ : ∃ K, Hid (decide (l = m) = K) := ⟨_, rfl⟩
  rw [HK.out]
  clear N1 N2 hl hm
  go_enter Tryd.func9, Tryd.ntmps9
  go_wp2_with fail
  generalize (w.alloc (.cells (bkL l).toArray 24)).alloc (.cells (bkL m).toArray 24) = w2 at *
  go_loopw [5] (fun vk wr => ∃ k n : Nat, vk = .int .i64 (k : Int) ∧ k ≤ 12 ∧ wr = w2.drewN n ∧ Hid (∀ j, j < k → l.getD j 0 = m.getD j 0)) (fun vk _ => 12 - (intOf vk).toNat)
  case atStart => exact ⟨0, 0, rfl, by omega, rfl, fun j hj => by omega⟩
  case round =>
    obtain ⟨k, n, rfl, hk, rfl, EQ⟩ := hrel
    by_cases hlt : (k : Int) < 12
    · obtain ⟨c0, c1⟩ := CE.out k (by omega)
      have i0 : (0 : Int) ≤ (k : Int) := by omega
      by_cases ex : l.getD k 0 = m.getD k 0
      · have EX' : Hid (∀ j, j < k + 1 → l.getD j 0 = m.getD j 0) := fun j hj => by
          by_cases e : j = k
          · subst e; exact ex
          · exact EQ.out j (by omega)
        rw [← ex] at c1
        clear ex
        generalize l.getD k 0 = x at *
        have e1 : (x != x) = false := by simp
        go_wp2_with fail
        go_quiet (fail)
        go_wp2_with fail
        go_roundw
        case rel => exact ⟨k + 1, n + nq, by go_num, by omega, by simp, EX'.out⟩
        case measure => simp [intOf]; omega
      · have KF : Hid (K = false) := HK.out.symm.trans (decide_eq_false (fun e => ex (by rw [e])))
        have e1 : (l.getD k 0 != m.getD k 0) = true := bne_iff_ne.2 ex
        clear ex
        generalize l.getD k 0 = x at *
        generalize m.getD k 0 = y at *
        go_wp2_with fail
        go_quiet (fail)
        go_wp2_with fail
        go_ret
        refine ⟨?_, below_drewN (below_drewN BB.out n) nq⟩
        rw [KF.out]; rfl
    · obtain rfl : k = 12 := by omega
      have KT : Hid (K = true) := HK.out.symm.trans (decide_eq_true (EX.out EQ.out))
      go_wp2_with fail
      go_ret
      refine ⟨?_, below_drewN BB.out n⟩
      rw [KT.out]; rfl

theorem post17 : postE zeroL [⟨1, 6, 7⟩] = 0 := by decide +kernel
theorem bal1 : balV (postB zeroL [⟨1, 6, 7⟩]) 1 = 7 ∧ balE (postB zeroL [⟨1, 6, 7⟩]) 1 = 0 ∧ balV (postB zeroL [⟨1, 6, 7⟩]) 6 = 7 ∧ balE (postB zeroL [⟨1, 6, 7⟩]) 6 = 0 := by decide +kernel
set_option maxRecDepth 20000 in
set_option maxHeartbeats 1000000 in
theorem posts_at (w : World) (hT : TabD w) : Calls Tryd.prog 11 #[] w fun e w' => e = .returned (.bool true) ∧ Below w.heap.size w w' := by
  have PO : Hid (Calls Tryd.prog 8 #[.agg (bkL zeroL).toArray, .slice (some ⟨w.heap.size, 0, none⟩) 1 1] (w.alloc (.cells (entL ⟨1, 6, 7⟩).toArray 29)) fun e w' => e = .returned (.tuple #[.agg (bkL (postB zeroL [⟨1, 6, 7⟩])).toArray, .int .i64 (postE zeroL [⟨1, 6, 7⟩])]) ∧ Below (w.alloc (.cells (entL ⟨1, 6, 7⟩).toArray 29)).heap.size (w.alloc (.cells (entL ⟨1, 6, 7⟩).toArray 29)) w') :=
    post_at zeroL [⟨1, 6, 7⟩] _ _ zero_ok (fun e he => by simp at he; subst he; exact ⟨⟨by decide, by decide⟩, ⟨by decide, by decide⟩, ⟨by decide, by decide⟩⟩) (by decide) (RdE.one w ⟨1, 6, 7⟩) (hT.later (below_alloc w _))
  rw [post17] at PO
  have OKB : Hid (BkOk (postB zeroL [⟨1, 6, 7⟩])) := postB_ok zero_ok
  have B1 : Hid (∀ w', Below w.heap.size w w' → Calls Tryd.prog 14 #[.agg (bkL (postB zeroL [⟨1, 6, 7⟩])).toArray, .int .i64 1] w' fun e w2 => e = .returned (.tuple #[.int .i64 7, .int .i64 0]) ∧ Below w'.heap.size w' w2) := fun w' hb => by have := balance_at (postB zeroL [⟨1, 6, 7⟩]) 1 w' OKB.out (hT.later hb); rwa [bal1.1, bal1.2.1] at this
  have B6 : Hid (∀ w', Below w.heap.size w w' → Calls Tryd.prog 14 #[.agg (bkL (postB zeroL [⟨1, 6, 7⟩])).toArray, .int .i64 6] w' fun e w2 => e = .returned (.tuple #[.int .i64 7, .int .i64 0]) ∧ Below w'.heap.size w' w2) := fun w' hb => by have := balance_at (postB zeroL [⟨1, 6, 7⟩]) 6 w' OKB.out (hT.later hb); rwa [bal1.2.2.1, bal1.2.2.2] at this
  generalize postB zeroL [⟨1, 6, 7⟩] = pb at *
  have BA : Hid (Below w.heap.size w (w.alloc (.cells (entL ⟨1, 6, 7⟩).toArray 29))) := below_alloc w _
  clear hT
  go_enter Tryd.func11, Tryd.ntmps11
  go_wp2_with fail
  refine PO.out.mono ?_
  rintro e w1 ⟨rfl, b1⟩
  have W1 : Hid (Below w.heap.size w w1) := below_trans BA.out b1
  clear PO BA b1
  have NB : Hid (Blk w1.heap.size 24 (bkL zeroL) (w1.alloc (.cells (bkL zeroL).toArray 24))) := Blk.new 24 (bkL zeroL) w1
  have WA : Hid (Below w.heap.size w (w1.alloc (.cells (bkL zeroL).toArray 24)) ∧ w.heap.size ≤ w1.heap.size) := ⟨W1.out.alloc W1.out.size _, W1.out.size⟩
  go_wp2_with (first
    | (refine step_store rfl 24 _ _ rfl w1.heap.size 0 24 (bkL zeroL) (bkL pb) rfl rfl NB.out (by rw [bkL_len, OKB.out.1]; exact Nat.le_refl _) (infoBl OKB.out.1) (bkL_one _) ?_; intro w7 nb7 g7; rw [store_all (by rw [bkL_len, OKB.out.1]; rfl)] at nb7; have N7 : Hid (Blk w1.heap.size 24 (bkL pb) w7) := nb7; have S7 : Hid (Below w.heap.size w w7) := below_row WA.out.1 g7 WA.out.2; clear nb7 g7 NB WA)
    | (refine step_load rfl 24 _ rfl w1.heap.size 0 rfl (bkL pb) _ N7.out.all Tryd.underlying24 rfl (infoBl OKB.out.1) ?_))
  refine (B1.out _ S7.out).mono ?_
  rintro e w8 ⟨rfl, b8⟩
  have N8 : Hid (Blk w1.heap.size 24 (bkL pb) w8) := N7.out.below b8
  have S8 : Hid (Below w.heap.size w w8) := below_trans S7.out b8
  clear N7 S7 b8 B1
  go_wp2_with (refine step_load rfl 24 _ rfl w1.heap.size 0 rfl (bkL pb) _ N8.out.all Tryd.underlying24 rfl (infoBl OKB.out.1) ?_)
  refine (B6.out _ S8.out).mono ?_
  rintro e w9 ⟨rfl, b9⟩
  have S9 : Hid (Below w.heap.size w w9) := below_trans S8.out b9
  go_wp2_with fail
  go_ret
  exact ⟨rfl, S9.out⟩
end Go.Proofs.YtkmmpffkmoaceabDoor
