/-
  Ours: the walk of WaterfallRecovers.
-/
import Derived.Test.YtplebplpachgiaaWatRec
import Derived.Test.YtplebplpachgiaaWatEq
namespace Go.Proofs.Ytplebplpachgiaa
open Go.RowKit LedM WatM

namespace WatM
theorem recP_five (l a : Int) : ∃ x0 x1 x2 x3 x4, recP l a = [x0, x1, x2, x3, x4] := by
  unfold recP z5
  split
  · exact ⟨_, _, _, _, _, rfl⟩
  · split
    · exact ⟨_, _, _, _, _, rfl⟩
    · split <;> exact ⟨_, _, _, _, _, rfl⟩
end WatM
set_option maxRecDepth 20000 in
set_option maxHeartbeats 800000 in
theorem recovers_any (l a : Int) (w : World) (hl : i64 l) (ha : i64 a) : Calls Try.prog 3 #[.int .i64 l, .int .i64 a] w fun e w' => e = .returned (.bool true) ∧ Below w.heap.size w w' := by
  have C1 : Hid (∀ w, Calls Try.prog 6 #[.int .i64 l, .int .i64 a] w fun e w' => e = .returned (.tuple #[.agg (bkL (recP l a)).toArray, .int .i64 (recE l a)]) ∧ Below w.heap.size w w') := fun w => recover_at l a w hl ha
  have C2 : Hid (∀ w, Calls Try.prog 7 #[.int .i64 l, .int .i64 a] w fun e w' => e = .returned (.tuple #[.agg (bkL (recP l a)).toArray, .int .i64 (recE l a)]) ∧ Below w.heap.size w w') := fun w => rrecover_at l a w hl ha
  obtain ⟨x0, x1, x2, x3, x4, hP⟩ := recP_five l a
  rw [hP] at C1 C2
  generalize recE l a = E at *
  have ee : (E == E) = true := by simp
  clear hP
  go_enter Try.func3, Try.ntmps3
  go_wp2_with fail
  refine (C1.out _).mono ?_
  rintro e w1 ⟨rfl, b1⟩
  have B1 : Hid (Below w.heap.size w w1) := b1
  have N1 : Hid (Blk w1.heap.size 23 (bkL z5) (w1.alloc z5o)) := Blk.new 23 (bkL z5) w1
  clear b1 C1
  go_wp2_with (refine step_store rfl 23 _ _ rfl w1.heap.size 0 23 (bkL z5) (bkL [x0, x1, x2, x3, x4]) rfl rfl N1.out (Nat.le_refl _) infoP (bkL_one _) ?_; intro w2 nb2 g2; have N2 : Hid (Blk w1.heap.size 23 (bkL [x0, x1, x2, x3, x4]) w2) := nb2; have B2 : Hid (Below w.heap.size w w2) := below_row (B1.out.alloc B1.out.size _) g2 B1.out.size; clear nb2 g2 N1)
  refine (C2.out _).mono ?_
  rintro e w3 ⟨rfl, b3⟩
  have B3 : Hid (Below w.heap.size w w3) := below_trans B2.out b3
  have N3 : Hid (Blk w1.heap.size 23 (bkL [x0, x1, x2, x3, x4]) (w3.alloc z5o)) := (N2.out.below b3).old _
  have L3 : Hid (w1.heap.size < w3.heap.size) := (N2.out.below b3).lt
  have M3 : Hid (Blk w3.heap.size 23 (bkL z5) (w3.alloc z5o)) := Blk.new 23 (bkL z5) w3
  clear b3 C2 N2 B2
  go_wp2_with (first
    | (refine step_store rfl 23 _ _ rfl w3.heap.size 0 23 (bkL z5) (bkL [x0, x1, x2, x3, x4]) rfl rfl M3.out (Nat.le_refl _) infoP (bkL_one _) ?_; intro w4 nb4 g4; have N4 : Hid (Blk w1.heap.size 23 (bkL [x0, x1, x2, x3, x4]) w4) := N3.out.grown g4 (by have := L3.out; simp; omega); have M4 : Hid (Blk w3.heap.size 23 (bkL [x0, x1, x2, x3, x4]) w4) := nb4; have B4 : Hid (Below w.heap.size w w4) := below_row (B3.out.alloc B3.out.size _) g4 B3.out.size; clear nb4 g4 M3 N3)
    | (refine step_load rfl 23 _ rfl w1.heap.size 0 rfl (bkL [x0, x1, x2, x3, x4]) _ N4.out.all Try.underlying23 rfl infoP ?_)
    | (refine step_load rfl 23 _ rfl w3.heap.size 0 rfl (bkL [x0, x1, x2, x3, x4]) _ M4.out.all Try.underlying23 rfl infoP ?_))
  refine (equal_yes x0 x1 x2 x3 x4 _).mono ?_
  rintro e w5 ⟨rfl, b5⟩
  have B5 : Hid (Below w.heap.size w w5) := below_trans B4.out b5
  clear b5 B4 N4 M4
  go_wp2_with fail
  go_ret
  exact ⟨rfl, B5.out⟩
end Go.Proofs.Ytplebplpachgiaa
