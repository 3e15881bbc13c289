/-
  Ours: Recover, the document's and the program's.
-/
import Derived.Test.YtplebplpachgiaaWatM
import Derived.Deep.QuietTactic
import Derived.BigQuiet
namespace Go.Proofs.Ytplebplpachgiaa
open Go.RowKit LedM WatM

set_option maxRecDepth 20000 in
set_option maxHeartbeats 800000 in
theorem recover_at (l a : Int) (w : World) (hl : i64 l) (ha : i64 a) : Calls Try.prog 6 #[.int .i64 l, .int .i64 a] w fun e w' => e = .returned (.tuple #[.agg (bkL (recP l a)).toArray, .int .i64 (recE l a)]) ∧ Below w.heap.size w w' := by
  unfold i64 at hl ha
  go_enter Try.func6, Try.ntmps6
  by_cases h1 : l < 0
  · have E1 : Hid (recP l a = z5) := if_pos h1
    have E2 : Hid (recE l a = 2) := if_pos h1
    go_wp2_with fail
    refine ret_blk_tmp rfl rfl w.heap.size 23 (bkL z5) _ rfl (Blk.new 23 (bkL z5) w) Try.underlying23 rfl infoP ?_
    rw [E1.out, E2.out]
    exact ⟨rfl, below_alloc w _⟩
  · by_cases h2 : a < 1
    · have E1 : Hid (recP l a = z5) := by show _ = _; unfold recP; rw [if_neg h1, if_pos h2]
      have E2 : Hid (recE l a = 4) := by show _ = _; unfold recE; rw [if_neg h1, if_pos h2]
      go_wp2_with fail
      refine ret_blk_tmp rfl rfl w.heap.size 23 (bkL z5) _ rfl (Blk.new 23 (bkL z5) w) Try.underlying23 rfl infoP ?_
      rw [E1.out, E2.out]
      exact ⟨rfl, below_alloc w _⟩
    · have E2 : Hid (recE l a = 0) := by show _ = _; unfold recE; rw [if_neg h1, if_neg h2]
      by_cases h3 : l ≤ a
      · have E1 : Hid (recP l a = [0, 0, 0, a - l, l]) := by show _ = _; unfold recP; rw [if_neg h1, if_neg h2, if_pos h3]
        go_wp2_with fail
        refine ret_blk_tmp rfl rfl w.heap.size 23 (bkL [0, 0, 0, a - l, l]) _ rfl (Blk.new 23 (bkL [0, 0, 0, a - l, l]) w) Try.underlying23 rfl infoP ?_
        rw [E1.out, E2.out]
        exact ⟨rfl, below_alloc w _⟩
      · have E1 : Hid (recP l a = [0, 0, 0, 0, a]) := by show _ = _; unfold recP; rw [if_neg h1, if_neg h2, if_neg h3]
        go_wp2_with fail
        refine ret_blk_tmp rfl rfl w.heap.size 23 (bkL [0, 0, 0, 0, a]) _ rfl (by have := Blk.new 23 (bkL [0, 0, 0, 0, a]) w; simpa [bkL] using this) Try.underlying23 rfl infoP ?_
        rw [E1.out, E2.out]
        exact ⟨rfl, below_alloc w _⟩

set_option maxRecDepth 20000 in
set_option maxHeartbeats 800000 in
theorem rrecover_at (l a : Int) (w : World) (hl : i64 l) (ha : i64 a) : Calls Try.prog 7 #[.int .i64 l, .int .i64 a] w fun e w' => e = .returned (.tuple #[.agg (bkL (recP l a)).toArray, .int .i64 (recE l a)]) ∧ Below w.heap.size w w' := by
  unfold i64 at hl ha
  have BE : ∀ o o' : Obj, Below w.heap.size w ((w.alloc o).alloc o') := fun o o' => (below_alloc w o).alloc (by simp) o'
  go_enter Try.func7, Try.ntmps7
  by_cases h1 : l < 0
  · have E1 : Hid (recP l a = z5) := if_pos h1
    have E2 : Hid (recE l a = 2) := if_pos h1
    go_wp2_with fail
    refine ret_blk_tmp rfl rfl w.heap.size 23 (bkL z5) _ rfl ((Blk.new 23 (bkL z5) w).old _) Try.underlying23 rfl infoP ?_
    rw [E1.out, E2.out]
    exact ⟨rfl, BE _ _⟩
  · by_cases h2 : a < 1
    · have E1 : Hid (recP l a = z5) := by show _ = _; unfold recP; rw [if_neg h1, if_pos h2]
      have E2 : Hid (recE l a = 4) := by show _ = _; unfold recE; rw [if_neg h1, if_pos h2]
      go_wp2_with fail
      refine ret_blk_tmp rfl rfl w.heap.size 23 (bkL z5) _ rfl ((Blk.new 23 (bkL z5) w).old _) Try.underlying23 rfl infoP ?_
      rw [E1.out, E2.out]
      exact ⟨rfl, BE _ _⟩
    · have E2 : Hid (recE l a = 0) := by show _ = _; unfold recE; rw [if_neg h1, if_neg h2]
      by_cases h3 : l < a
      · have E1 : Hid (recP l a = [0, 0, 0, a - l, l]) := by show _ = _; unfold recP; rw [if_neg h1, if_neg h2, if_pos (by omega)]
        go_wp2_with fail
        refine ret_blk_tmp rfl rfl w.heap.size 23 (bkL [0, 0, 0, a - l, l]) _ rfl ((Blk.new 23 (bkL [0, 0, 0, a - l, l]) w).old _) Try.underlying23 rfl infoP ?_
        rw [E1.out, E2.out]
        exact ⟨rfl, BE _ _⟩
      · have E1 : Hid (recP l a = [0, 0, 0, 0, a]) := by
          show _ = _; unfold recP; rw [if_neg h1, if_neg h2]
          split
          · obtain rfl : l = a := by omega
            simp
          · rfl
        go_wp2_with fail
        refine ret_blk_tmp rfl rfl w.heap.size 23 (bkL [0, 0, 0, 0, a]) _ rfl ((Blk.new 23 (bkL [0, 0, 0, 0, a]) w).old _) Try.underlying23 rfl infoP ?_
        rw [E1.out, E2.out]
        exact ⟨rfl, BE _ _⟩
end Go.Proofs.Ytplebplpachgiaa
