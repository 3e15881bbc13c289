/-
  Ours: the walk of WaterfallAllocates.
-/
import Derived.Test.YtplebplpachgiaaDoorWatRAl2
import Derived.Test.YtplebplpachgiaaDoorWatAl
import Derived.Test.YtplebplpachgiaaDoorWatEq
namespace Go.Proofs.YtplebplpachgiaaDoor
open Go.RowKit LedM WatM

set_option maxRecDepth 20000 in
set_option maxHeartbeats 2000000 in
theorem allocates_any (o f i p a : Int) (w : World) (ho : i64 o) (hf : i64 f) (hi : i64 i) (hp : i64 p) (ha : i64 a) (hT : TabO w) :
    Calls Tryd.prog 5 #[.int .i64 o, .agg (bkL [f, i, p]).toArray, .int .i64 a] w fun e w' => e = .returned (.bool true) ∧ Below w.heap.size w w' := by
  have OR : Hid (∀ w', Below w.heap.size w w' → Calls Tryd.prog 7 #[.int .i64 o] w' fun e w2 => e = .returned (.tuple #[.agg (bkL (ordL o)).toArray, .bool (ordB o)]) ∧ Below w'.heap.size w' w2) := fun w' hb => order_at o w' ho (hT.later hb)
  have RO : Hid (∀ w', Calls Tryd.prog 11 #[.int .i64 o] w' fun e w2 => e = .returned (.tuple #[.agg (bkL (ordL o)).toArray, .bool (ordB o)]) ∧ Below w'.heap.size w' w2) := fun w' => rorder_at o w'
  have AL : Hid (∀ w', Below w.heap.size w w' → Calls Tryd.prog 8 #[.int .i64 o, .agg (bkL [f, i, p]).toArray, .int .i64 a] w' fun e w2 => e = .returned (.tuple #[.agg (bkL (alP o f i p a)).toArray, .int .i64 (alE o f i p a)]) ∧ Below w'.heap.size w' w2) := fun w' b => alloc_at o f i p a w' ho hf hi hp ha (hT.later b)
  have RA : Hid (∀ w', Calls Tryd.prog 12 #[.int .i64 o, .agg (bkL [f, i, p]).toArray, .int .i64 a] w' fun e w2 => e = .returned (.tuple #[.agg (bkL (alP o f i p a)).toArray, .int .i64 (alE o f i p a)]) ∧ Below w'.heap.size w' w2) := fun w' => ralloc_at o f i p a w' hf hi hp ha
  have K0 : Hid (KB w [(w.heap.size, 23, bkL [f, i, p])] (w.alloc (.cells (bkL [f, i, p]).toArray 23))) := (KB.start w).new _ _
  obtain ⟨k0, k1, k2, hk⟩ := ordL_three o
  obtain ⟨x0, x1, x2, x3, x4, hP⟩ := alP_five o f i p a
  rw [hk] at OR RO
  rw [hP] at AL RA
  generalize alE o f i p a = E at *
  generalize ordB o = ob at *
  have ee : (E == E) = true := by simp
  have e0 : (k0 != k0) = false := by simp
  have e1 : (k1 != k1) = false := by simp
  have e2 : (k2 != k2) = false := by simp
  have eb : (ob != ob) = false := by simp
  clear hk hP hT
  go_enter Tryd.func5, Tryd.ntmps5
  go_wp2_with fail
  refine (OR.out _ K0.out.bb).mono ?_
  rintro e w1 ⟨rfl, b1⟩
  have K1 : Hid (KB w [(w.heap.size, 23, bkL [f, i, p])] w1) := K0.out.call b1
  have Z1 : Hid (Blk w1.heap.size 25 (bkL [0, 0, 0]) (w1.alloc z3o)) := Blk.new 25 (bkL [0, 0, 0]) w1
  clear OR K0 b1
  go_wp2_with (refine step_store rfl 25 _ _ rfl w1.heap.size 0 25 (bkL [0, 0, 0]) (bkL [k0, k1, k2]) rfl rfl Z1.out (Nat.le_refl _) infoT (bkL_one _) ?_; intro w2 nb2 g2; have K2 : Hid (KB w [(w1.heap.size, 25, bkL [k0, k1, k2]), (w.heap.size, 23, bkL [f, i, p])] w2) := K1.out.put _ nb2 g2; clear nb2 g2 K1 Z1)
  refine (RO.out _).mono ?_
  rintro e w3 ⟨rfl, b3⟩
  have K3 : Hid (KB w [(w1.heap.size, 25, bkL [k0, k1, k2]), (w.heap.size, 23, bkL [f, i, p])] w3) := K2.out.call b3
  have Z3 : Hid (Blk w3.heap.size 25 (bkL [0, 0, 0]) (w3.alloc z3o)) := Blk.new 25 (bkL [0, 0, 0]) w3
  clear RO K2 b3
  go_upto_region 3 with (refine step_store rfl 25 _ _ rfl w3.heap.size 0 25 (bkL [0, 0, 0]) (bkL [k0, k1, k2]) rfl rfl Z3.out (Nat.le_refl _) infoT (bkL_one _) ?_; intro w4 nb4 g4; have K4 : Hid (KB w [(w3.heap.size, 25, bkL [k0, k1, k2]), (w1.heap.size, 25, bkL [k0, k1, k2]), (w.heap.size, 23, bkL [f, i, p])] w4) := K3.out.put _ nb4 g4; clear nb4 g4 K3 Z3)
  have c0 := (K4.out.at 0 rfl).cell 0 _ rfl
  have c1 := (K4.out.at 0 rfl).cell 1 _ rfl
  have c2 := (K4.out.at 0 rfl).cell 2 _ rfl
  have d0 := (K4.out.at 1 rfl).cell 0 _ rfl
  have d1 := (K4.out.at 1 rfl).cell 1 _ rfl
  have d2 := (K4.out.at 1 rfl).cell 2 _ rfl
  go_wp2_with (refine step_load rfl 23 _ rfl w.heap.size 0 rfl (bkL [f, i, p]) _ (K4.out.at 2 rfl).all Tryd.underlying23 rfl infoO ?_)
  clear c0 c1 c2 d0 d1 d2
  refine (AL.out _ K4.out.bb).mono ?_
  rintro e w5 ⟨rfl, b5⟩
  have K5 : Hid (KB w [(w3.heap.size, 25, bkL [k0, k1, k2]), (w1.heap.size, 25, bkL [k0, k1, k2]), (w.heap.size, 23, bkL [f, i, p])] w5) := K4.out.call b5
  have Z5 : Hid (Blk w5.heap.size 29 (bkL z5) (w5.alloc z5o)) := Blk.new 29 (bkL z5) w5
  clear AL K4 b5
  go_wp2_with (first
    | (refine step_store rfl 29 _ _ rfl w5.heap.size 0 29 (bkL z5) (bkL [x0, x1, x2, x3, x4]) rfl rfl Z5.out (Nat.le_refl _) infoP (bkL_one _) ?_; intro w6 nb6 g6; have K6 : Hid (KB w ((w5.heap.size, 29, bkL [x0, x1, x2, x3, x4]) :: _) w6) := K5.out.put _ nb6 g6; clear nb6 g6 K5 Z5)
    | (refine step_load rfl 23 _ rfl w.heap.size 0 rfl (bkL [f, i, p]) _ (K6.out.at 3 rfl).all Tryd.underlying23 rfl infoO ?_))
  refine (RA.out _).mono ?_
  rintro e w7 ⟨rfl, b7⟩
  have K7 : Hid (KB w ((w5.heap.size, 29, bkL [x0, x1, x2, x3, x4]) :: _) w7) := K6.out.call b7
  have Z7 : Hid (Blk w7.heap.size 29 (bkL z5) (w7.alloc z5o)) := Blk.new 29 (bkL z5) w7
  clear RA K6 b7
  go_wp2_with (first
    | (refine step_store rfl 29 _ _ rfl w7.heap.size 0 29 (bkL z5) (bkL [x0, x1, x2, x3, x4]) rfl rfl Z7.out (Nat.le_refl _) infoP (bkL_one _) ?_; intro w8 nb8 g8; have K8 : Hid (KB w ((w7.heap.size, 29, bkL [x0, x1, x2, x3, x4]) :: (w5.heap.size, 29, bkL [x0, x1, x2, x3, x4]) :: _) w8) := K7.out.put _ nb8 g8; clear nb8 g8 K7 Z7)
    | (refine step_load rfl 29 _ rfl w7.heap.size 0 rfl (bkL [x0, x1, x2, x3, x4]) _ (K8.out.at 0 rfl).all Tryd.underlying29 rfl infoP ?_)
    | (refine step_load rfl 29 _ rfl w5.heap.size 0 rfl (bkL [x0, x1, x2, x3, x4]) _ (K8.out.at 1 rfl).all Tryd.underlying29 rfl infoP ?_))
  refine (equal_yes x0 x1 x2 x3 x4 _).mono ?_
  rintro e w9 ⟨rfl, b9⟩
  have K9 : Hid (Below w.heap.size w w9) := below_trans K8.out.bb b9
  clear K8 b9
  go_wp2_with fail
  go_ret
  exact ⟨rfl, K9.out⟩
end Go.Proofs.YtplebplpachgiaaDoor
