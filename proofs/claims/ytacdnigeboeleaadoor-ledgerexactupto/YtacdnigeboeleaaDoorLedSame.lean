/-
  Ours: two books alike; a right posting.
-/
import Derived.Test.YtacdnigeboeleaaDoorLedPost
import Derived.Test.YtacdnigeboeleaaDoorLedCat
import Derived.Test.YtacdnigeboeleaaDoorLedBal2
namespace Go.Proofs.YtacdnigeboeleaaDoor
open Go.RowKit LedM

set_option maxHeartbeats 1000000 in
theorem same_at (l m : List Int) (w : World) (hl : l.length = 12) (hm : m.length = 12) : Calls Tryd.prog 18 #[.agg (bkL l).toArray, .agg (bkL m).toArray] w fun e w' => e = .returned (.bool (decide (l = m))) ∧ Below w.heap.size w w' := by
  have N1 : Blk w.heap.size 25 (bkL l) ((w.alloc (.cells (bkL l).toArray 25)).alloc (.cells (bkL m).toArray 25)) := (Blk.new 25 (bkL l) w).old _
  have N2 : Blk (w.heap.size + 1) 25 (bkL m) ((w.alloc (.cells (bkL l).toArray 25)).alloc (.cells (bkL m).toArray 25)) := Blk.new2 25 (bkL m) w _
  have BB : Hid (Below w.heap.size w ((w.alloc (.cells (bkL l).toArray 25)).alloc (.cells (bkL m).toArray 25))) := (below_alloc w _).alloc (by simp) _
  have CE : Hid (∀ k, k < 12 → ((w.alloc (.cells (bkL l).toArray 25)).alloc (.cells (bkL m).toArray 25)).cell? ⟨w.heap.size, k, none⟩ = some (.int .i64 (l.getD k 0)) ∧ ((w.alloc (.cells (bkL l).toArray 25)).alloc (.cells (bkL m).toArray 25)).cell? ⟨w.heap.size + 1, k, none⟩ = some (.int .i64 (m.getD k 0))) := fun k hk => ⟨N1.cell k _ (bkL_at (by omega)), N2.cell k _ (bkL_at (by omega))⟩
  have EX : Hid ((∀ j, j < 12 → l.getD j 0 = m.getD j 0) → l = m) := fun h => ext12 hl hm h
  obtain ⟨K, HK⟩ : ∃ K, Hid (decide (l = m) = K) := ⟨_, rfl⟩
  rw [HK.out]
  clear N1 N2 hl hm
  go_enter Tryd.func18, Tryd.ntmps18
  go_wp2_with fail
  generalize (w.alloc (.cells (bkL l).toArray 25)).alloc (.cells (bkL m).toArray 25) = w2 at *
  go_loopw [5] (fun vk wr => ∃ k n : Nat, vk = .int .i64 (k : Int) ∧ k ≤ 12 ∧ wr = w2.drewN n ∧ Hid (∀ j, j < k → l.getD j 0 = m.getD j 0)) (fun vk _ => 12 - (intOf vk).toNat)
  case atStart => exact ⟨0, 0, rfl, by omega, rfl, fun j hj => by omega⟩
  case round =>
    obtain ⟨k, n, rfl, hk, rfl, EQ⟩ := hrel
    by_cases hlt : (k : Int) < 12
    · obtain ⟨c0, c1⟩ := CE.out k (by omega)
      have i0 : (0 : Int) ≤ (k : Int) := by omega
      by_cases ex : l.getD k 0 = m.getD k 0
      · have EX' : Hid (∀ j, j < k + 1 → l.getD j 0 = m.getD j 0) := fun j hj => by
          by_cases e : j = k
          · subst e; exact ex
          · exact EQ.out j (by omega)
        rw [← ex] at c1
        clear ex
        generalize l.getD k 0 = x at *
        have e1 : (x != x) = false := by simp
        go_wp2_with fail
        go_quiet (fail)
        go_wp2_with fail
        go_roundw
        case rel => exact ⟨k + 1, n + nq, by go_num, by omega, by simp, EX'.out⟩
        case measure => simp [intOf]; omega
      · have KF : Hid (K = false) := HK.out.symm.trans (decide_eq_false (fun e => ex (by rw [e])))
        have e1 : (l.getD k 0 != m.getD k 0) = true := bne_iff_ne.2 ex
        clear ex
        generalize l.getD k 0 = x at *
        generalize m.getD k 0 = y at *
        go_wp2_with fail
        go_quiet (fail)
        go_wp2_with fail
        go_ret
        refine ⟨?_, below_drewN (below_drewN BB.out n) nq⟩
        rw [KF.out]; rfl
    · obtain rfl : k = 12 := by omega
      have KT : Hid (K = true) := HK.out.symm.trans (decide_eq_true (EX.out EQ.out))
      go_wp2_with fail
      go_ret
      refine ⟨?_, below_drewN BB.out n⟩
      rw [KT.out]; rfl

theorem post17 : postE zeroL [⟨1, 6, 7⟩] = 0 := by decide +kernel
theorem bal1 : balV (postB zeroL [⟨1, 6, 7⟩]) 1 = 7 ∧ balE (postB zeroL [⟨1, 6, 7⟩]) 1 = 0 ∧ balV (postB zeroL [⟨1, 6, 7⟩]) 6 = 7 ∧ balE (postB zeroL [⟨1, 6, 7⟩]) 6 = 0 := by decide +kernel
end Go.Proofs.YtacdnigeboeleaaDoor
