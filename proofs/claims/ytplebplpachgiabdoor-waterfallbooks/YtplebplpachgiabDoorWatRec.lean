/-
  Ours: Recover, the document's and the program's.
-/
import Derived.Test.YtplebplpachgiabDoorWatM
import Derived.Deep.QuietTactic
import Derived.BigQuiet
namespace Go.Proofs.YtplebplpachgiabDoor
open Go.RowKit LedM WatM

set_option maxRecDepth 20000 in
set_option maxHeartbeats 800000 in
theorem recover_at (l a : Int) (w : World) (hl : i64 l) (ha : i64 a) : Calls Tryd.prog 9 #[.int .i64 l, .int .i64 a] w fun e w' => e = .returned (.tuple #[.agg (bkL (recP l a)).toArray, .int .i64 (recE l a)]) ∧ Below w.heap.size w w' := by
  unfold i64 at hl ha
  go_enter Tryd.func9, Tryd.ntmps9
  by_cases h1 : l < 0
  · have E1 : Hid (recP l a = z5) := if_pos h1
    have E2 : Hid (recE l a = 2) := if_pos h1
    go_wp2_with fail
    refine ret_blk_tmp rfl rfl w.heap.size 27 (bkL z5) _ rfl (Blk.new 27 (bkL z5) w) Tryd.underlying27 rfl infoP ?_
    rw [E1.out, E2.out]
    exact ⟨rfl, below_alloc w _⟩
  · by_cases h2 : a < 1
    · have E1 : Hid (recP l a = z5) := by show _ = _; unfold recP; rw [if_neg h1, if_pos h2]
      have E2 : Hid (recE l a = 4) := by show _ = _; unfold recE; rw [if_neg h1, if_pos h2]
      go_wp2_with fail
      refine ret_blk_tmp rfl rfl w.heap.size 27 (bkL z5) _ rfl (Blk.new 27 (bkL z5) w) Tryd.underlying27 rfl infoP ?_
      rw [E1.out, E2.out]
      exact ⟨rfl, below_alloc w _⟩
    · have E2 : Hid (recE l a = 0) := by show _ = _; unfold recE; rw [if_neg h1, if_neg h2]
      by_cases h3 : l ≤ a
      · have E1 : Hid (recP l a = [0, 0, 0, a - l, l]) := by show _ = _; unfold recP; rw [if_neg h1, if_neg h2, if_pos h3]
        go_wp2_with fail
        refine ret_blk_tmp rfl rfl w.heap.size 27 (bkL [0, 0, 0, a - l, l]) _ rfl (Blk.new 27 (bkL [0, 0, 0, a - l, l]) w) Tryd.underlying27 rfl infoP ?_
        rw [E1.out, E2.out]
        exact ⟨rfl, below_alloc w _⟩
      · have E1 : Hid (recP l a = [0, 0, 0, 0, a]) := by show _ = _; unfold recP; rw [if_neg h1, if_neg h2, if_neg h3]
        go_wp2_with fail
        refine ret_blk_tmp rfl rfl w.heap.size 27 (bkL [0, 0, 0, 0, a]) _ rfl (by have := Blk.new 27 (bkL [0, 0, 0, 0, a]) w; simpa [bkL] using this) Tryd.underlying27 rfl infoP ?_
        rw [E1.out, E2.out]
        exact ⟨rfl, below_alloc w _⟩

end Go.Proofs.YtplebplpachgiabDoor
